/-
  RunScript by the model: proved by walking the function.
-/
import Derived.Test.YtdliebbfcmdmaaaGreatMj48
set_option linter.unusedVariables false
set_option maxHeartbeats 6400000
set_option maxRecDepth 100000
namespace Go.Proofs.YtdliebbfcmdmaaaGreat
open Go.RowKit
theorem specRunScript_any (v:Value) (cs:List Cm) (w:World) (hr:RdR Cm.vs 8 w v cs) (pM:∀ c ∈ cs,c.g.size ≤ maxLen) :
  Calls Tryz.prog 6 #[v] w fun e w'=>∃ gv vq,e = ym (.tuple #[.agg #[gv,H (rsF cs).n,vq,H (rsF cs).t.gr,H (rsF cs).t.ac,H (rsF cs).t.rf,H (rsF cs).t.tr,H (rsF cs).t.vo,H (rsF cs).t.no,H (rsF cs).t.li,H (rsF cs).t.le],H (cntF cs.length)])∧GRs w' w.heap.size gv (rsF cs).g∧ORow w' w.heap.size vq (rsF cs).l∧yn w w':=by
 have HR:=Y hr
 have qI:=Y pM
 obtain ⟨a,A,rfl,xD,hc⟩:=hr
 clear hc pM
 have hsf:=sfl
 have HF:Hid (rsF cs = if cs.length ≤ 200 then { runS cs with t:=wbT (runS cs).t (runS cs).l } else ⟨0,[],[],tot0⟩):=rfl
 have ko:=Y (cntF.eq_1 cs.length)
 have HRU:=Y (fun (h:cs.length ≤ 200) (W:World) hW=>l04Run_any (.slice a cs.length A) cs W hW (U qI) h)
 generalize rsF cs = qt at HF HRU ⊢
 generalize cntF cs.length = CF at ko ⊢
 have hbX:=ed w (E #[.slice none 0 0,H 0,.slice none 0 0,H 0,H 0,H 0,H 0,H 0,H 0,H 0,H 0] 35)
 have HX:Hid ((w.alloc (E #[.slice none 0 0,H 0,.slice none 0 0,H 0,H 0,H 0,H 0,H 0,H 0,H 0,H 0] 35)).heap.size = w.heap.size + 1∧World.there (w.alloc (E #[.slice none 0 0,H 0,.slice none 0 0,H 0,H 0,H 0,H 0,H 0,H 0,H 0,H 0] 35)) w.heap.size 0 11∧yn w (w.alloc (E #[.slice none 0 0,H 0,.slice none 0 0,H 0,H 0,H 0,H 0,H 0,H 0,H 0,H 0] 35))):=⟨ze _ _,zu w [.slice none 0 0,H 0,.slice none 0 0,H 0,H 0,H 0,H 0,H 0,H 0,H 0,H 0] 35,hbX⟩
 clear hbX
 go_enter Tryz.func6,Tryz.ntmps6
 refine ei fun hR xu=>?_
 go_wp2_with fail
 refine U xu _ _ ?_
 clear xu
 generalize (w.alloc (E #[.slice none 0 0,H 0,.slice none 0 0,H 0,H 0,H 0,H 0,H 0,H 0,H 0,H 0] 35)) = ty at HX ⊢
 obtain ⟨y0,z0,q0⟩:=zc (U HX).2.1 (j:=0) (by omega)
 obtain ⟨y1,z1,q1⟩:=zc (U HX).2.1 (j:=1) (by omega)
 obtain ⟨y2,z2,q2⟩:=zc (U HX).2.1 (j:=2) (by omega)
 obtain ⟨y3,z3,q3⟩:=zc (U HX).2.1 (j:=3) (by omega)
 obtain ⟨y4,z4,q4⟩:=zc (U HX).2.1 (j:=4) (by omega)
 obtain ⟨y5,z5,q5⟩:=zc (U HX).2.1 (j:=5) (by omega)
 obtain ⟨y6,z6,q6⟩:=zc (U HX).2.1 (j:=6) (by omega)
 obtain ⟨y7,z7,q7⟩:=zc (U HX).2.1 (j:=7) (by omega)
 obtain ⟨y8,z8,q8⟩:=zc (U HX).2.1 (j:=8) (by omega)
 obtain ⟨y9,z9,q9⟩:=zc (U HX).2.1 (j:=9) (by omega)
 obtain ⟨y10,z10,q10⟩:=zc (U HX).2.1 (j:=10) (by omega)
 by_cases Q:4096 < cs.length
 ·have qK:Hid (qt = ⟨0,[],[],tot0⟩):=(U HF).trans (if_neg (by omega))
  have HCD:Hid (CF = 2):=(U ko).trans (if_pos Q)
  have oE:(4096:Int) < cs.length:=by omega
  have xQ:=Y (yX ty w.heap.size 0 [.slice none 0 0,H 0,.slice none 0 0,H 0,H 0,H 0,H 0,H 0,H 0,H 0,H 0] (fun j R=>(U HX).2.1 j R))
  have vQ:=Y (zm w.heap.size tg [.slice none 0 0,H 0,.slice none 0 0,H 0,H 0,H 0,H 0,H 0,H 0,H 0,H 0] 0 ty (U HX).2.2)
  clear HF ko HRU
  go_wp2_with fail
  change bodyPost _ _ _ _ _ (ty.setCells w.heap.size 0 [.slice none 0 0,H 0,.slice none 0 0,H 0,H 0,H 0,H 0,H 0,H 0,H 0,H 0])
  generalize ty.setCells w.heap.size 0 [.slice none 0 0,H 0,.slice none 0 0,H 0,H 0,H 0,H 0,H 0,H 0,H 0,H 0] = WE at xQ vQ ⊢
  obtain rfl:=U qK
  have d0:WE.cell? (yq w 0) = some (.slice none 0 0):=U xQ 0 _ rfl
  have d1:WE.cell? (yq w 1) = some (H 0):=U xQ 1 _ rfl
  have d2:WE.cell? (yq w 2) = some (.slice none 0 0):=U xQ 2 _ rfl
  have d3:WE.cell? (yq w 3) = some (H 0):=U xQ 3 _ rfl
  have d4:WE.cell? (yq w 4) = some (H 0):=U xQ 4 _ rfl
  have d5:WE.cell? (yq w 5) = some (H 0):=U xQ 5 _ rfl
  have d6:WE.cell? (yq w 6) = some (H 0):=U xQ 6 _ rfl
  have d7:WE.cell? (yq w 7) = some (H 0):=U xQ 7 _ rfl
  have d8:WE.cell? (yq w 8) = some (H 0):=U xQ 8 _ rfl
  have d9:WE.cell? (yq w 9) = some (H 0):=U xQ 9 _ rfl
  have d10:WE.cell? (yq w 10) = some (H 0):=U xQ 10 _ rfl
  refine bodyPost_ret (by simp [results,Tryz.results6,go_sem,d0,d1,d2,d3,d4,d5,d6,d7,d8,d9,d10]; try rfl) rfl ?_
  rw [U HCD]
  exact ⟨_,_,rfl,⟨[],World.ownsRow_nil _ _ _ _,rfl,fun i g es hg=>by simp at hg⟩,World.ownsRow_nil _ _ _ _,U vQ⟩
 have oE:¬ (4096:Int) < cs.length:=by omega
 by_cases N:200 < cs.length
 ·have qK:Hid (qt = ⟨0,[],[],tot0⟩):=(U HF).trans (if_neg (by omega))
  have HCD:Hid (CF = 7):=(U ko).trans ((if_neg Q).trans (if_pos N))
  have js:(200:Int) < cs.length:=by omega
  have xQ:=Y (yX ty w.heap.size 0 [.slice none 0 0,H 0,.slice none 0 0,H 0,H 0,H 0,H 0,H 0,H 0,H 0,H 0] (fun j R=>(U HX).2.1 j R))
  have vQ:=Y (zm w.heap.size tg [.slice none 0 0,H 0,.slice none 0 0,H 0,H 0,H 0,H 0,H 0,H 0,H 0,H 0] 0 ty (U HX).2.2)
  clear HF ko HRU
  go_wp2_with fail
  change bodyPost _ _ _ _ _ (ty.setCells w.heap.size 0 [.slice none 0 0,H 0,.slice none 0 0,H 0,H 0,H 0,H 0,H 0,H 0,H 0,H 0])
  generalize ty.setCells w.heap.size 0 [.slice none 0 0,H 0,.slice none 0 0,H 0,H 0,H 0,H 0,H 0,H 0,H 0,H 0] = WE at xQ vQ ⊢
  obtain rfl:=U qK
  have d0:WE.cell? (yq w 0) = some (.slice none 0 0):=U xQ 0 _ rfl
  have d1:WE.cell? (yq w 1) = some (H 0):=U xQ 1 _ rfl
  have d2:WE.cell? (yq w 2) = some (.slice none 0 0):=U xQ 2 _ rfl
  have d3:WE.cell? (yq w 3) = some (H 0):=U xQ 3 _ rfl
  have d4:WE.cell? (yq w 4) = some (H 0):=U xQ 4 _ rfl
  have d5:WE.cell? (yq w 5) = some (H 0):=U xQ 5 _ rfl
  have d6:WE.cell? (yq w 6) = some (H 0):=U xQ 6 _ rfl
  have d7:WE.cell? (yq w 7) = some (H 0):=U xQ 7 _ rfl
  have d8:WE.cell? (yq w 8) = some (H 0):=U xQ 8 _ rfl
  have d9:WE.cell? (yq w 9) = some (H 0):=U xQ 9 _ rfl
  have d10:WE.cell? (yq w 10) = some (H 0):=U xQ 10 _ rfl
  refine bodyPost_ret (by simp [results,Tryz.results6,go_sem,d0,d1,d2,d3,d4,d5,d6,d7,d8,d9,d10]; try rfl) rfl ?_
  rw [U HCD]
  exact ⟨_,_,rfl,⟨[],World.ownsRow_nil _ _ _ _,rfl,fun i g es hg=>by simp at hg⟩,World.ownsRow_nil _ _ _ _,U vQ⟩
 have js:¬ (200:Int) < cs.length:=by omega
 have HCD:Hid (CF = 0):=(U ko).trans ((if_neg Q).trans (if_neg N))
 have HRU1:=Y (U HRU (by omega) ty (zl (U HR) (U HX).2.2 tg))
 clear HRU HF ko z0 q0 z1 q1 z2 q2 z3 q3 z4 q4 z5 q5 z6 q6 z7 q7 z8 q8 z9 q9 z10 q10
 obtain ⟨fn,fl,fg,⟨ue,ud,ug,uh,ui,uf,ut,ur⟩⟩:=qt
 simp only at HRU1 ⊢
 go_wp2_with fail
 refine (U HRU1).mono ?_
 rintro e w4 ⟨gv,vq,rfl,⟨gs,hg,kX,hge⟩,hq,xC⟩
 obtain ⟨aq,cq,hv⟩:=zR hq
 subst hv
 obtain ⟨ga,gc,hgv⟩:=zR hg
 subst hgv
 have hxs:=(U HX).1
 have ai:=Y (zf (U HX).2.1 xC (by omega))
 have un:=Y ((U HX).2.2.trans (xC.mono (U HX).2.2.size))
 obtain ⟨y0,z0,q0⟩:=zc (U ai) (j:=0) (by omega)
 obtain ⟨y1,z1,q1⟩:=zc (U ai) (j:=1) (by omega)
 obtain ⟨y2,z2,q2⟩:=zc (U ai) (j:=2) (by omega)
 obtain ⟨y3,z3,q3⟩:=zc (U ai) (j:=3) (by omega)
 obtain ⟨y4,z4,q4⟩:=zc (U ai) (j:=4) (by omega)
 obtain ⟨y5,z5,q5⟩:=zc (U ai) (j:=5) (by omega)
 obtain ⟨y6,z6,q6⟩:=zc (U ai) (j:=6) (by omega)
 obtain ⟨y7,z7,q7⟩:=zc (U ai) (j:=7) (by omega)
 obtain ⟨y8,z8,q8⟩:=zc (U ai) (j:=8) (by omega)
 obtain ⟨y9,z9,q9⟩:=zc (U ai) (j:=9) (by omega)
 obtain ⟨y10,z10,q10⟩:=zc (U ai) (j:=10) (by omega)
 have xQ:=Y (yX w4 w.heap.size 0 [.slice ga gs.length gc,H fn,.slice aq fl.length cq,H ue,H ud,H ug,H uh,H ui,H uf,H ut,H ur] (fun j R=>U ai j R))
 have vQ:=Y (zm w.heap.size tg [.slice ga gs.length gc,H fn,.slice aq fl.length cq,H ue,H ud,H ug,H uh,H ui,H uf,H ut,H ur] 0 w4 (U un))
 have vL:Hid (∀ {e sz m:Nat} {v:Value} {xs:List Value},w4.ownsRow ty.heap.size e sz v m xs→World.ownsRow (w4.setCells w.heap.size 0 [.slice ga gs.length gc,H fn,.slice aq fl.length cq,H ue,H ud,H ug,H uh,H ui,H uf,H ut,H ur]) w.heap.size e sz v m xs):=fun {e sz m v xs} h=>by
  have h3:=ch (b:=w.heap.size) (fun e'=>by have:=(h.lt _ e'.symm).1; omega) [.slice ga gs.length gc,H fn,.slice aq fl.length cq,H ue,H ud,H ug,H uh,H ui,H uf,H ut,H ur] 0 _ h
  refine ⟨h3.1,?_⟩
  rcases h3.2 with k1 | ⟨g',c',xr,k1,k2,k3⟩
  ·exact .inl k1
  ·exact .inr ⟨g',c',xr,k1,by omega,k3⟩
 have HGG:Hid (GRs (w4.setCells w.heap.size 0 [.slice ga gs.length gc,H fn,.slice aq fl.length cq,H ue,H ud,H ug,H uh,H ui,H uf,H ut,H ur]) w.heap.size (.slice ga gs.length gc) fg):=⟨gs,U vL hg,kX,fun i g es Q N=>U vL (hge i g es Q N)⟩
 have HO:Hid (ORow (w4.setCells w.heap.size 0 [.slice ga gs.length gc,H fn,.slice aq fl.length cq,H ue,H ud,H ug,H uh,H ui,H uf,H ut,H ur]) w.heap.size (.slice aq fl.length cq) fl):=U vL hq
 clear vL hg kX hge hq xC hxs
 go_wp2_with fail
 change bodyPost _ _ _ _ _ (w4.setCells w.heap.size 0 [.slice ga gs.length gc,H fn,.slice aq fl.length cq,H ue,H ud,H ug,H uh,H ui,H uf,H ut,H ur])
 generalize w4.setCells w.heap.size 0 [.slice ga gs.length gc,H fn,.slice aq fl.length cq,H ue,H ud,H ug,H uh,H ui,H uf,H ut,H ur] = WE at xQ vQ HGG HO ⊢
 have d0:WE.cell? (yq w 0) = some (.slice ga gs.length gc):=U xQ 0 _ rfl
 have d1:WE.cell? (yq w 1) = some (H fn):=U xQ 1 _ rfl
 have d2:WE.cell? (yq w 2) = some (.slice aq fl.length cq):=U xQ 2 _ rfl
 have d3:WE.cell? (yq w 3) = some (H ue):=U xQ 3 _ rfl
 have d4:WE.cell? (yq w 4) = some (H ud):=U xQ 4 _ rfl
 have d5:WE.cell? (yq w 5) = some (H ug):=U xQ 5 _ rfl
 have d6:WE.cell? (yq w 6) = some (H uh):=U xQ 6 _ rfl
 have d7:WE.cell? (yq w 7) = some (H ui):=U xQ 7 _ rfl
 have d8:WE.cell? (yq w 8) = some (H uf):=U xQ 8 _ rfl
 have d9:WE.cell? (yq w 9) = some (H ut):=U xQ 9 _ rfl
 have d10:WE.cell? (yq w 10) = some (H ur):=U xQ 10 _ rfl
 refine bodyPost_ret (by simp [results,Tryz.results6,go_sem,d0,d1,d2,d3,d4,d5,d6,d7,d8,d9,d10]; try rfl) rfl ?_
 rw [U HCD]
 exact ⟨_,_,rfl,U HGG,U HO,U vQ⟩
theorem zero_read:FloatKind.f64.format.read 0 = .number false 0 FloatKind.f64.format.leastPlace:=by decide
theorem one_read:∃ m j,FloatKind.f64.format.read 4607182418800017408 = .number false m j∧m ≠ 0:=⟨_,_,rfl,by decide⟩
theorem zero_mag (s:Bool) (m a b:Nat) (h:Ieee.signed s m a = Ieee.signed false 0 b):m = 0:=by
 have h0:Ieee.signed false 0 b = 0:=by simp [Ieee.signed]
 rw [h0] at h
 have N:m <<< a = 0:=by
  cases s
  ·have h':((m <<< a:Nat):Int) = 0:=h
   omega
  ·have h':-((m <<< a:Nat):Int) = 0:=h
   omega
 rw [Nat.shiftLeft_eq] at N
 have:=Nat.two_pow_pos a
 rcases Nat.mul_eq_zero.1 N with h | h
 ·exact h
 ·omega
theorem div_zero (x:Nat) (h:FloatKind.f64.format.order x 0 = some Ordering.eq):∃ r,FloatKind.f64.format.div 4607182418800017408 x = some r:=by
 obtain ⟨m1,j1,Q,hm1⟩:=one_read
 unfold Ieee.Format.order at h
 rw [zero_read] at h
 unfold Ieee.Format.div
 rw [Q]
 cases hx:FloatKind.f64.format.read x with
 | nan s f=>rw [hx] at h; simp [Ieee.Datum.order] at h
 | infinity s=>rw [hx] at h; cases s <;> simp [Ieee.Datum.order] at h
 | number s m i =>
  rw [hx] at h
  simp only [Ieee.Datum.order,Option.some.injEq] at h
  have hm:=zero_mag s m _ _ (Std.LawfulEqCmp.eq_of_compare h)
  subst hm
  exact ⟨FloatKind.f64.format.write (.infinity s),by simp [Ieee.Datum.quotient,hm1]⟩
theorem sameFloat_any (x:Nat) (w:World) :
  Calls Tryz.prog 92 #[yj x,yj x] w fun e w'=>e = .returned (.bool true)∧w' = w:=by
 cases hn:nanB x with
 | true =>
  have h':(FloatKind.f64.format.order x x != some Ordering.eq) = true:=hn
  clear hn
  go_enter Tryz.func92,Tryz.ntmps92
  go_wp2
  go_ret
  exact ⟨rfl,rfl⟩
 | false =>
  have h':(FloatKind.f64.format.order x x != some Ordering.eq) = false:=hn
  have N:FloatKind.f64.format.order x x = some Ordering.eq:=by simpa using h'
  clear hn
  by_cases hz:FloatKind.f64.format.order x 0 = some Ordering.eq
  ·obtain ⟨r,hr⟩:=div_zero x hz
   have hq:∀ W,(binOp .quo 25 (yj 4607182418800017408) (yj x)).run Tryz.prog W = .ok (yj r) W:=fun W=>by simp [binOp,Op.floatArith,hr]
   have hz':(FloatKind.f64.format.order x 0 == some Ordering.eq) = true:=by rw [hz]; rfl
   clear hz hr
   go_enter Tryz.func92,Tryz.ntmps92
   go_wp2
   all_goals go_ret
   all_goals exact ⟨zy (by simp),rfl⟩
  ·have hz':(FloatKind.f64.format.order x 0 == some Ordering.eq) = false:=by simpa using hz
   clear hz
   go_enter Tryz.func92,Tryz.ntmps92
   go_wp2
   go_ret
   exact ⟨zy (by simp),rfl⟩
theorem smCmd_same (c:Cm) (w:World) :
  Calls Tryz.prog 67 #[.agg (yw c.k c.s c.t c.l c.q c.i c.p c.g).toArray,.agg (yw c.k c.s c.t c.l c.q c.i c.p c.g).toArray] w fun e w' =>
   e = ym (.bool true)∧yn w w':=by
 obtain ⟨k,s,t,l,q,i,p,g⟩:=c
 simp only
 go_enter Tryz.func67,Tryz.ntmps67
 go_wp2_with (go_at_call 92; refine (sameFloat_any _ _).mono ?_; rintro e w' ⟨rfl,rfl⟩)
 go_returns
 refine ⟨rfl,?_⟩
 go_grown
theorem smEvent_same (e:Ev) (w:World) :
  Calls Tryz.prog 38 #[evV e,evV e] w fun x w'=>x = ym (.bool true)∧yn w w':=by
 obtain ⟨uw,⟨k,s,t,l,q,i,p,g⟩,id,xN,qty,xO,xJ⟩:=e
 unfold evV
 have HE:=Y (fun W=>smCmd_same ⟨k,s,t,l,q,i,p,g⟩ W)
 simp only at *
 have xA:(w.alloc (E (yu uw k s t l q i p g id xN qty xO xJ).toArray 41)).heap.size = w.heap.size + 1:=du _ _
 have uc:((w.alloc (E (yu uw k s t l q i p g id xN qty xO xJ).toArray 41)).alloc (E (yu uw k s t l q i p g id xN qty xO xJ).toArray 41)).heap.size = w.heap.size + 1 + 1:=by rw [du,xA]
 have b1:Below (w.heap.size + 1) (w.alloc (E (yu uw k s t l q i p g id xN qty xO xJ).toArray 41)) ((w.alloc (E (yu uw k s t l q i p g id xN qty xO xJ).toArray 41)).alloc (E (yu uw k s t l q i p g id xN qty xO xJ).toArray 41)):=(Below.refl _ _).alloc (by rw [xA]; omega) _
 have r1:=zb (dH w (yu uw k s t l q i p g id xN qty xO xJ) 41) b1 (by omega)
 have r2:=dH (w.alloc (E (yu uw k s t l q i p g id xN qty xO xJ).toArray 41)) (yu uw k s t l q i p g id xN qty xO xJ) 41
 rw [xA] at r2
 have HB:Hid (yn w ((w.alloc (E (yu uw k s t l q i p g id xN qty xO xJ).toArray 41)).alloc (E (yu uw k s t l q i p g id xN qty xO xJ).toArray 41))):=(ed _ _).alloc (by rw [xA]; omega) _
 have HX:Hid (_∧_∧_):=⟨r1,r2,uc⟩
 clear r1 r2 b1 xA uc
 go_enter Tryz.func38,Tryz.ntmps38
 go_wp2_with fail
 generalize ((w.alloc (E (yu uw k s t l q i p g id xN qty xO xJ).toArray 41)).alloc (E (yu uw k s t l q i p g id xN qty xO xJ).toArray 41)) = W at HX HB ⊢
 obtain ⟨jz,hr2,hsW⟩:=U HX
 refine (U HE _).mono ?_
 rintro e w2 ⟨rfl,xZ⟩
 have xF:=Y (eh (U HB) xZ)
 have q1:=zb jz xZ (by omega)
 have q2:=zb hr2 xZ (by omega)
 have x9:=q1 9 _ rfl
 have x10:=q1 10 _ rfl
 have x11:=q1 11 _ rfl
 have x12:=q1 12 _ rfl
 have x13:=q1 13 _ rfl
 have y9:=q2 9 _ rfl
 have y10:=q2 10 _ rfl
 have y11:=q2 11 _ rfl
 have y12:=q2 12 _ rfl
 have y13:=q2 13 _ rfl
 clear jz hr2 q1 q2 xZ HX HB hsW
 go_wp2_with fail
 go_returns
 exact ⟨rfl,U xF⟩
theorem smEvents_same (va vb:Value) (l:List Ev) (w:World) (ha:RdR Ev.vs 14 w va l) (L:RdR Ev.vs 14 w vb l) :
  Calls Tryz.prog 17 #[va,vb] w fun e w'=>e = ym (.bool true)∧yn w w':=by
 obtain ⟨aa,ca,rfl,hl,hca⟩:=ha
 obtain ⟨ab,cb,rfl,_,hcb⟩:=L
 have xq:∀ (k:Nat) (c:Ev),l[k]? = some c→∃ b off b' uJ,aa = some (J b off)∧ab = some (J b' uJ)∧b < w.heap.size∧b' < w.heap.size∧w.rangeAt b (off + k * 14) c.vs∧w.rangeAt b' (uJ + k * 14) c.vs:=by
  intro k c hk
  have xB:l ≠ []:=by intro h; rw [h] at hk; simp at hk
  obtain ⟨b,off,Q,N,h3⟩:=hca xB
  obtain ⟨b',uJ,oE,js,h3'⟩:=hcb xB
  exact ⟨b,off,b',uJ,Q,oE,N,js,h3 k c hk,h3' k c hk⟩
 have HC:=Y xq
 clear xq hca hcb
 go_enter Tryz.func17,Tryz.ntmps17
 go_wp2_with fail
 go_loopw [5] (fun i wr=>∃ k:Nat,k ≤ l.length∧i = H k∧yn w wr) (fun i _=>l.length - (intOf i).toNat)
 case atStart=>exact ⟨0,Nat.zero_le _,rfl,Below.refl _ _⟩
 case round =>
  obtain ⟨k,hk,rfl,xk⟩:=hrel
  have HB:=Y xk
  clear xk
  by_cases xK:k < l.length
  ·obtain ⟨c,vd⟩:∃ c,l[k]? = some c:=⟨_,yH xK⟩
   obtain ⟨b,off,b',uJ,rfl,rfl,L,kL,xo,qu⟩:=U HC k c vd
   obtain ⟨g0,g1,g2,g3,g4,g5,g6,g7,g8,g9,qC,vF,ua,ku⟩:=cz (zb xo (U HB) L)
   obtain ⟨e0,e1,e2,e3,e4,e5,e6,e7,e8,e9,oD,e11,e12,e13⟩:=cz (zb qu (U HB) kL)
   have uv:(k:Int) < l.length:=by omega
   clear vd xo qu L kL
   go_wp2_with fail
   go_region_with (go_at_call 38; refine (smEvent_same c _).mono ?_; rintro e w2 ⟨rfl,xZ⟩; have xF:=Y ((U HB).drew.trans (xZ.mono (U HB).drew.size)); clear xZ)
   go_wp2_with fail
   go_roundw
   case rel=>exact ⟨k + 1,by omega,by go_num,U xF⟩
   case measure=>simp [intOf]; omega
   all_goals exact ⟨⟨k + 1,by omega,by go_num,U xF⟩,by simp [intOf]; omega⟩
  ·go_wp2_with fail
   go_ret
   exact ⟨rfl,U HB⟩
theorem smGs_same (va vb:Value) (gl:List (List Ev)) (w:World) (ha:RdG w va gl) (L:RdG w vb gl) :
  Calls Tryz.prog 7 #[va,vb] w fun e w'=>e = ym (.bool true)∧yn w w':=by
 obtain ⟨aa,ca,rfl,hl,hca⟩:=ha
 obtain ⟨ab,cb,rfl,_,hcb⟩:=L
 have xq:∀ (k:Nat) (es:List Ev),gl[k]? = some es→∃ b off b' uJ ga gc ga' gc',aa = some (J b off)∧ab = some (J b' uJ)∧b < w.heap.size∧b' < w.heap.size∧w.cell? (J b (off + k)) = some (.slice ga es.length gc)∧w.cell? (J b' (uJ + k)) = some (.slice ga' es.length gc')∧RdR Ev.vs 14 w (.slice ga es.length gc) es∧RdR Ev.vs 14 w (.slice ga' es.length gc') es:=by
  intro k es hk
  have xB:gl ≠ []:=by intro h; rw [h] at hk; simp at hk
  obtain ⟨b,off,Q,N,h3⟩:=hca xB
  obtain ⟨b',uJ,oE,js,h3'⟩:=hcb xB
  obtain ⟨g,h4,h5⟩:=h3 k es hk
  obtain ⟨g',h4',h5'⟩:=h3' k es hk
  obtain ⟨ga,gc,rfl,_⟩:=id h5
  obtain ⟨ga',gc',rfl,_⟩:=id h5'
  exact ⟨b,off,b',uJ,ga,gc,ga',gc',Q,oE,N,js,h4,h4',h5,h5'⟩
 have HC:=Y xq
 clear xq hca hcb
 go_enter Tryz.func7,Tryz.ntmps7
 go_wp2_with fail
 go_loopw [5] (fun i wr=>∃ k:Nat,k ≤ gl.length∧i = H k∧yn w wr) (fun i _=>gl.length - (intOf i).toNat)
 case atStart=>exact ⟨0,Nat.zero_le _,rfl,Below.refl _ _⟩
 case round =>
  obtain ⟨k,hk,rfl,xk⟩:=hrel
  have HB:=Y xk
  clear xk
  by_cases xK:k < gl.length
  ·obtain ⟨es,vd⟩:∃ es,gl[k]? = some es:=⟨_,yH xK⟩
   obtain ⟨b,off,b',uJ,ga,gc,ga',gc',rfl,rfl,L,kL,xo,qu,hr,hr'⟩:=U HC k es vd
   have g0:=((U HB).cell (p:=(J b (off + k))) L).trans xo
   have g1:=((U HB).cell (p:=(J b' (uJ + k))) kL).trans qu
   have HRA:=Y (zl hr (U HB).drew tg)
   have HRB:=Y (zl hr' (U HB).drew tg)
   have uv:(k:Int) < gl.length:=by omega
   clear vd xo qu L kL hr hr'
   go_wp2_with fail
   go_region_with (go_at_call 17; refine (smEvents_same _ _ es _ (U HRA) (U HRB)).mono ?_; rintro e w2 ⟨rfl,xZ⟩; have xF:=Y ((U HB).drew.trans (xZ.mono (U HB).drew.size)); clear xZ)
   go_wp2_with fail
   go_roundw
   case rel=>exact ⟨k + 1,by omega,by go_num,U xF⟩
   case measure=>simp [intOf]; omega
   all_goals exact ⟨⟨k + 1,by omega,by go_num,U xF⟩,by simp [intOf]; omega⟩
  ·go_wp2_with fail
   go_ret
   exact ⟨rfl,U HB⟩
end Go.Proofs.YtdliebbfcmdmaaaGreat
