/-
  The rule that a later event of a group breaks, by the model: proved by walking the method.
-/
import Derived.Test.YtnphbkgfjanmgaaGreatDoorDj34
import Derived.Lib.QuietBelow
set_option linter.unusedVariables false
set_option maxHeartbeats 6400000
set_option maxRecDepth 100000
namespace Go.Proofs.YtnphbkgfjanmgaaGreatDoor
open Go.RowKit
theorem cV (k:Int) (w:World) (hk:1 ≤ k∧k ≤ 9):Calls Tryz.prog 104 #[I k] w fun e w'=>e = .returned (.bool (zO k))∧w' = w:=by
 rcases (show k = 1 ∨ k = 2 ∨ k = 3 ∨ k = 4 ∨ k = 5 ∨ k = 6 ∨ k = 7 ∨ k = 8 ∨ k = 9 by omega) with rfl | rfl | rfl | rfl | rfl | rfl | rfl | rfl | rfl
 all_goals
  clear hk
  go_enter Tryz.func104,Tryz.ntmps104
  go_wp2_with fail
  go_ret
  exact ⟨rfl,rfl⟩
theorem later_any {cp B:Nat} {vl vd va:Value} {g:Gr} {t:Od} {kd n0:Int} {dy l0:List Od} (e:Ev) (w:World) (h:MS cp B w vl vd va g t kd n0 dy l0) (hi:GI g) (hm:MR g t kd dy) (hk:1 ≤ e.kind∧e.kind ≤ 9):Calls Tryz.prog 66 #[J cp 0,evV e] w fun x w'=>x = .returned (I (latM (dueG g) e))∧yp w w':=by
 have hsf:=sfl
 have jU:=H (fun W (hW:MS cp B W vl vd va g t kd n0 dy l0)=>mdue_any W hW hi hm)
 have vZ:=H (fun W=>cV e.kind W hk)
 generalize dueG g = d at jU ⊢
 have jL:Hid (latM d e = if zO e.kind = true then 3 else if d.kind = 0 then 8 else if d.kind = 9 ∨ e.kind = 9 then (if ((e.kind == d.kind) && ((e.id == d.id) && (e.qty == d.qty))) = true then 0 else 14) else if d.kind ≠ 3 then (if e.kind = 3 then 9 else if ((e.kind == d.kind) && ((e.id == d.id) && (e.qty == d.qty))) = true then 0 else 13) else if e.kind ≠ 3 then 13 else if e.id ≠ d.id then 9 else if e.other ≠ d.other then 10 else if e.price ≠ d.price then 11 else if e.qty ≠ d.qty then 12 else 0):=rfl
 generalize latM d e = lm at jL ⊢
 generalize zO e.kind = sb at vZ jL
 obtain ⟨xn,⟨ck,A,ct,F,cq,ci,O,cg⟩,id,xj,qty,xk,xi⟩:=e
 obtain ⟨dk,di,dt,dq,dp⟩:=d
 unfold duV at jU
 unfold evV
 simp only at jU vZ jL ⊢
 obtain ⟨xz,HX⟩:=fE w (yw xn ck A ct F cq ci O cg id xj qty xk xi) 52
 have HS:Hid ((w.alloc (L (yw xn ck A ct F cq ci O cg id xj qty xk xi).toArray 52)).heap.size = w.heap.size + 1):=by show _ = _; simp
 have HM:=H (zv h xz)
 have HB:=H xz
 clear h xz hi hm hk
 go_enter Tryz.func66,Tryz.ntmps66
 refine fD fun zb HK=>?_
 go_wp2_with fail
 refine U HK _ _ ?_
 clear HK
 generalize (w.alloc (L (yw xn ck A ct F cq ci O cg id xj qty xk xi).toArray 52)) = W1 at HS HX HM HB ⊢
 go_wp2_with fail
 refine (U jU W1 (U HM)).mono ?_
 rintro e w2 ⟨rfl,xL⟩
 obtain ⟨xy,vJ⟩:=fE w2 [I dk,I di,I dt,I dq,I dp] 29
 have hb24:=xL.trans (xy.mono xL.size)
 have xG:=H (zf (U HX) hb24 (by have:=U HS; omega))
 have xH:=H (fC (U HB) hb24)
 clear xL xy hb24 HX HM HB HS jU
 have e0:=K (U xG) 0 rfl
 go_wp2_with fail
 generalize (w2.alloc (L #[I dk,I di,I dt,I dq,I dp] 29)) = xo at xG xH vJ e0 ⊢
 refine (U vZ xo).mono ?_
 rintro e X2 ⟨rfl,jt⟩
 rw [← jt] at xG xH vJ e0
 clear jt vZ
 have e9:=K (U xG) 9 rfl
 have uO:=K (U xG) 10 rfl
 have uy:=K (U xG) 11 rfl
 have vQ:=K (U xG) 12 rfl
 have v0:=K (U vJ) 0 rfl
 have v1:=K (U vJ) 1 rfl
 have v2:=K (U vJ) 2 rfl
 have v3:=K (U vJ) 3 rfl
 have v4:=K (U vJ) 4 rfl
 cases sb
 ·by_cases hd0:dk = 0
  ·have f_hd0:(dk == 0) = true:=by simpa using hd0
   have HQ:Hid (lm = 8):=by show _ = _; rw [U jL]; grind
   clear hd0
   go_wp2_with fail
   go_ret
   exact ⟨by rw [U HQ]; rfl,U xH⟩
  ·have f_hd0:(dk == 0) = false:=by simpa using hd0
   by_cases hd9:dk = 9
   ·have f_hd9:(dk == 9) = true:=by simpa using hd9
    by_cases hkd:xn = dk
    ·have oS:(xn != dk) = false:=by simpa using hkd
     by_cases ui:id = di
     ·have jZ:(id != di) = false:=by simpa using ui
      by_cases hqd:qty = dq
      ·have ka:(qty != dq) = false:=by simpa using hqd
       have HQ:Hid (lm = 0):=by show _ = _; rw [U jL]; grind
       clear hd0 hd9 hkd ui hqd
       go_wp2_with fail
       go_ret
       exact ⟨by rw [U HQ]; rfl,U xH⟩
      ·have ka:(qty != dq) = true:=by simpa using hqd
       have HQ:Hid (lm = 14):=by show _ = _; rw [U jL]; grind
       clear hd0 hd9 hkd ui hqd
       go_wp2_with fail
       go_ret
       exact ⟨by rw [U HQ]; rfl,U xH⟩
     ·have jZ:(id != di) = true:=by simpa using ui
      have HQ:Hid (lm = 14):=by show _ = _; rw [U jL]; grind
      clear hd0 hd9 hkd ui
      go_wp2_with fail
      go_ret
      exact ⟨by rw [U HQ]; rfl,U xH⟩
    ·have oS:(xn != dk) = true:=by simpa using hkd
     have HQ:Hid (lm = 14):=by show _ = _; rw [U jL]; grind
     clear hd0 hd9 hkd
     go_wp2_with fail
     go_ret
     exact ⟨by rw [U HQ]; rfl,U xH⟩
   ·have f_hd9:(dk == 9) = false:=by simpa using hd9
    by_cases jG:xn = 9
    ·have f_hk9:(xn == 9) = true:=by simpa using jG
     by_cases hkd:xn = dk
     ·have oS:(xn != dk) = false:=by simpa using hkd
      by_cases ui:id = di
      ·have jZ:(id != di) = false:=by simpa using ui
       by_cases hqd:qty = dq
       ·have ka:(qty != dq) = false:=by simpa using hqd
        have HQ:Hid (lm = 0):=by show _ = _; rw [U jL]; grind
        clear hd0 hd9 jG hkd ui hqd
        go_wp2_with fail
        go_ret
        exact ⟨by rw [U HQ]; rfl,U xH⟩
       ·have ka:(qty != dq) = true:=by simpa using hqd
        have HQ:Hid (lm = 14):=by show _ = _; rw [U jL]; grind
        clear hd0 hd9 jG hkd ui hqd
        go_wp2_with fail
        go_ret
        exact ⟨by rw [U HQ]; rfl,U xH⟩
      ·have jZ:(id != di) = true:=by simpa using ui
       have HQ:Hid (lm = 14):=by show _ = _; rw [U jL]; grind
       clear hd0 hd9 jG hkd ui
       go_wp2_with fail
       go_ret
       exact ⟨by rw [U HQ]; rfl,U xH⟩
     ·have oS:(xn != dk) = true:=by simpa using hkd
      have HQ:Hid (lm = 14):=by show _ = _; rw [U jL]; grind
      clear hd0 hd9 jG hkd
      go_wp2_with fail
      go_ret
      exact ⟨by rw [U HQ]; rfl,U xH⟩
    ·have f_hk9:(xn == 9) = false:=by simpa using jG
     by_cases pR:dk = 3
     ·have g_hd3:(dk != 3) = false:=by simpa using pR
      by_cases hk3:xn = 3
      ·have f_hk3:(xn == 3) = true:=by simpa using hk3
       have g_hk3:(xn != 3) = false:=by simpa using hk3
       by_cases ui:id = di
       ·have jZ:(id != di) = false:=by simpa using ui
        by_cases oZ:xj = dt
        ·have g_hot:(xj != dt) = false:=by simpa using oZ
         by_cases hpr:xk = dp
         ·have g_hpr:(xk != dp) = false:=by simpa using hpr
          by_cases hqd:qty = dq
          ·have ka:(qty != dq) = false:=by simpa using hqd
           have HQ:Hid (lm = 0):=by show _ = _; rw [U jL]; grind
           clear hd0 hd9 jG pR hk3 ui oZ hpr hqd
           go_wp2_with fail
           go_ret
           exact ⟨by rw [U HQ]; rfl,U xH⟩
          ·have ka:(qty != dq) = true:=by simpa using hqd
           have HQ:Hid (lm = 12):=by show _ = _; rw [U jL]; grind
           clear hd0 hd9 jG pR hk3 ui oZ hpr hqd
           go_wp2_with fail
           go_ret
           exact ⟨by rw [U HQ]; rfl,U xH⟩
         ·have g_hpr:(xk != dp) = true:=by simpa using hpr
          have HQ:Hid (lm = 11):=by show _ = _; rw [U jL]; grind
          clear hd0 hd9 jG pR hk3 ui oZ hpr
          go_wp2_with fail
          go_ret
          exact ⟨by rw [U HQ]; rfl,U xH⟩
        ·have g_hot:(xj != dt) = true:=by simpa using oZ
         have HQ:Hid (lm = 10):=by show _ = _; rw [U jL]; grind
         clear hd0 hd9 jG pR hk3 ui oZ
         go_wp2_with fail
         go_ret
         exact ⟨by rw [U HQ]; rfl,U xH⟩
       ·have jZ:(id != di) = true:=by simpa using ui
        have HQ:Hid (lm = 9):=by show _ = _; rw [U jL]; grind
        clear hd0 hd9 jG pR hk3 ui
        go_wp2_with fail
        go_ret
        exact ⟨by rw [U HQ]; rfl,U xH⟩
      ·have f_hk3:(xn == 3) = false:=by simpa using hk3
       have g_hk3:(xn != 3) = true:=by simpa using hk3
       have HQ:Hid (lm = 13):=by show _ = _; rw [U jL]; grind
       clear hd0 hd9 jG pR hk3
       go_wp2_with fail
       go_ret
       exact ⟨by rw [U HQ]; rfl,U xH⟩
     ·have g_hd3:(dk != 3) = true:=by simpa using pR
      by_cases hk3:xn = 3
      ·have f_hk3:(xn == 3) = true:=by simpa using hk3
       have g_hk3:(xn != 3) = false:=by simpa using hk3
       have HQ:Hid (lm = 9):=by show _ = _; rw [U jL]; grind
       clear hd0 hd9 jG pR hk3
       go_wp2_with fail
       go_ret
       exact ⟨by rw [U HQ]; rfl,U xH⟩
      ·have f_hk3:(xn == 3) = false:=by simpa using hk3
       have g_hk3:(xn != 3) = true:=by simpa using hk3
       by_cases hkd:xn = dk
       ·have oS:(xn != dk) = false:=by simpa using hkd
        by_cases ui:id = di
        ·have jZ:(id != di) = false:=by simpa using ui
         by_cases hqd:qty = dq
         ·have ka:(qty != dq) = false:=by simpa using hqd
          have HQ:Hid (lm = 0):=by show _ = _; rw [U jL]; grind
          clear hd0 hd9 jG pR hk3 hkd ui hqd
          go_wp2_with fail
          go_ret
          exact ⟨by rw [U HQ]; rfl,U xH⟩
         ·have ka:(qty != dq) = true:=by simpa using hqd
          have HQ:Hid (lm = 13):=by show _ = _; rw [U jL]; grind
          clear hd0 hd9 jG pR hk3 hkd ui hqd
          go_wp2_with fail
          go_ret
          exact ⟨by rw [U HQ]; rfl,U xH⟩
        ·have jZ:(id != di) = true:=by simpa using ui
         have HQ:Hid (lm = 13):=by show _ = _; rw [U jL]; grind
         clear hd0 hd9 jG pR hk3 hkd ui
         go_wp2_with fail
         go_ret
         exact ⟨by rw [U HQ]; rfl,U xH⟩
       ·have oS:(xn != dk) = true:=by simpa using hkd
        have HQ:Hid (lm = 13):=by show _ = _; rw [U jL]; grind
        clear hd0 hd9 jG pR hk3 hkd
        go_wp2_with fail
        go_ret
        exact ⟨by rw [U HQ]; rfl,U xH⟩
 ·have HQ:Hid (lm = 3):=by show _ = _; rw [U jL]; grind
  go_wp2_with fail
  go_ret
  exact ⟨by rw [U HQ]; rfl,U xH⟩
theorem dU (e:Ev) (w:World) (hk:1 ≤ e.kind∧e.kind ≤ 9):Calls Tryz.prog 105 #[evV e] w fun r w'=>r = .returned (.tuple #[cmV (aQ e),.bool (zO e.kind)])∧yp w w':=by
 have hsf:=sfl
 obtain ⟨xn,⟨ck,A,ct,F,cq,ci,O,cg⟩,id,xj,qty,xk,xi⟩:=e
 simp only at hk
 unfold evV aQ cmV zCm zO
 simp only
 rcases (show xn = 1 ∨ xn = 2 ∨ xn = 3 ∨ xn = 4 ∨ xn = 5 ∨ xn = 6 ∨ xn = 7 ∨ xn = 8 ∨ xn = 9 by omega) with rfl | rfl | rfl | rfl | rfl | rfl | rfl | rfl | rfl
 all_goals
  clear hk
  simp
  go_enter Tryz.func105,Tryz.ntmps105
  go_wp2_with fail
  go_returns
  exact ⟨rfl,by go_grown⟩
def DYc (vs:List (Option Value)) (n:Nat) (p:Prop) (hj:World) (j:Nat) (v:Value):Prop:=(j = 6→∃ a c,v = .slice a n c)∧∀ u,vs[j]? = some (some u)→v = u
theorem dyc_mono {vs:List (Option Value)} {n:Nat}:∀ p W W' j v,yp W W'→DYc vs n p W j v→DYc vs n p W' j v:=fun _ _ _ _ _ _ h=>h
theorem iRow_slice {W:World} {B:Nat} {v:Value} {l:List Nat} (h:IRow W B v l):∃ a c,v = .slice a l.length c:=by
 rcases h.2 with ⟨e,e2⟩ | ⟨g,cap,xF,e,_⟩
 ·exact ⟨none,0,by rw [e,e2]⟩
 ·exact ⟨_,_,e⟩
theorem eF (k ck A ct F cq ci:Int) (O:Nat) (cg:ByteArray) (id xj qty xk xi:Int) (cp:Nat) (g:Gr) (w:World) (hk:1 ≤ k∧k ≤ 9) (hs:zO k = false):Calls Tryz.prog 67 #[J cp 0,.agg (yw k ck A ct F cq ci O cg id xj qty xk xi).toArray] w fun x w'=>x = .returned (I (fstM g.nx g.l ⟨k,⟨ck,A,ct,F,cq,ci,O,cg⟩,id,xj,qty,xk,xi⟩))∧yp w w':=by
 have hsf:=sfl
 have vZ:=H (fun W=>cV k W hk)
 rw [hs] at vZ
 have vX:Hid (fstM g.nx g.l ⟨k,⟨ck,A,ct,F,cq,ci,O,cg⟩,id,xj,qty,xk,xi⟩ = 3):=by show _ = _; simp [fstM,hs]
 generalize fstM g.nx g.l ⟨k,⟨ck,A,ct,F,cq,ci,O,cg⟩,id,xj,qty,xk,xi⟩ = fm at vX ⊢
 have HX:=H (zq w (yw k ck A ct F cq ci O cg id xj qty xk xi) 52)
 have HB:Hid (yp w (w.alloc (L (yw k ck A ct F cq ci O cg id xj qty xk xi).toArray 52))):=fw _ _
 clear hk hs
 go_enter Tryz.func67,Tryz.ntmps67
 refine fD fun zb HK=>?_
 go_wp2_with fail
 refine U HK _ _ ?_
 clear HK
 generalize (w.alloc (L (yw k ck A ct F cq ci O cg id xj qty xk xi).toArray 52)) = W1 at HX HB ⊢
 have e0:=K (U HX) 0 rfl
 go_wp2_with fail
 refine (U vZ W1).mono ?_
 rintro e w1 ⟨rfl,qx⟩
 rw [qx]
 clear qx
 go_wp2_with fail
 go_ret
 exact ⟨by rw [U vX]; rfl,U HB⟩
theorem first_2 {cp B:Nat} {vl vd va:Value} {g:Gr} {t:Od} {kd n0:Int} {dy l0:List Od} (ck A ct F cq ci:Int) (O:Nat) (cg:ByteArray) (id xj qty xk xi:Int) (w:World) (h:MS cp B w vl vd va g t kd n0 dy l0) (hi:GI g) (E:g.bg = 0) (hg:cg.size ≤ maxLen):Calls Tryz.prog 67 #[J cp 0,.agg (yw 2 ck A ct F cq ci O cg id xj qty xk xi).toArray] w fun x w'=>x = .returned (I (fstM g.nx g.l ⟨2,⟨ck,A,ct,F,cq,ci,O,cg⟩,id,xj,qty,xk,xi⟩))∧yp w w':=by
 have hsf:=sfl
 have vZ:=H (fun W=>cV 2 W (by decide))
 have uw:=H (fun W=>dU ⟨2,⟨ck,A,ct,F,cq,ci,O,cg⟩,id,xj,qty,xk,xi⟩ W (by show (1:Int) ≤ 2∧(2:Int) ≤ 9; decide))
 have qK:=H (hi.good (.inl (by omega)))
 have HSI:=H (hi.start E).2.2.1
 have xA:=hi.len
 have vX:Hid (fstM g.nx g.l ⟨2,⟨ck,A,ct,F,cq,ci,O,cg⟩,id,xj,qty,xk,xi⟩ = if refR g.nx g.l (aQ ⟨2,⟨ck,A,ct,F,cq,ci,O,cg⟩,id,xj,qty,xk,xi⟩) = 0 ∨ ¬ refR g.nx g.l (aQ ⟨2,⟨ck,A,ct,F,cq,ci,O,cg⟩,id,xj,qty,xk,xi⟩) = xi then 4 else 0):=by show _ = _; simp [fstM,zO]
 have kX:Hid ((aQ ⟨2,⟨ck,A,ct,F,cq,ci,O,cg⟩,id,xj,qty,xk,xi⟩).g.size ≤ maxLen):=dL hg
 have jy:=H (h.eqn E)
 generalize fstM g.nx g.l ⟨2,⟨ck,A,ct,F,cq,ci,O,cg⟩,id,xj,qty,xk,xi⟩ = fm at vX ⊢
 generalize aQ ⟨2,⟨ck,A,ct,F,cq,ci,O,cg⟩,id,xj,qty,xk,xi⟩ = c at uw vX kX
 unfold evV at uw
 simp only at uw
 obtain ⟨xz,HX⟩:=fE w (yw 2 ck A ct F cq ci O cg id xj qty xk xi) 52
 have HS:Hid ((w.alloc (L (yw 2 ck A ct F cq ci O cg id xj qty xk xi).toArray 52)).heap.size = w.heap.size + 1):=by show _ = _; simp
 have HM:=H (zv h xz)
 have HB:=H xz
 clear h xz hi E hg
 go_enter Tryz.func67,Tryz.ntmps67
 refine fD fun zb HK=>?_
 go_wp2_with fail
 refine U HK _ _ ?_
 clear HK
 generalize (w.alloc (L (yw 2 ck A ct F cq ci O cg id xj qty xk xi).toArray 52)) = W1 at HS HX HM HB ⊢
 obtain ⟨e0,e1,e2,e3,e4,e5,e6,e7,e8,e9,uO,uy,vQ,uQ⟩:=yz (U HX)
 go_wp2_with fail
 refine (U vZ W1).mono ?_
 rintro e w1 ⟨rfl,qx⟩
 rw [qx]
 clear qx
 go_wp2_with fail
 refine (U uw W1).mono ?_
 rintro e w3 ⟨rfl,xQ⟩
 have hz:=U HS
 obtain ⟨dk,ds,dt,dl,dq,di,dp,dg⟩:=c
 unfold cmV
 simp only
 have xy:=fw w3 (L (yy dk ds dt dl dq di dp dg).toArray 50)
 have uL:=xQ.trans (xy.mono xQ.size)
 have xG:=H (zf (U HX) uL (by omega))
 have qd:=H (zv (U HM) uL)
 have xH:=H (fC (U HB) uL)
 have vJ:=H (zq w3 (yy dk ds dt dl dq di dp dg) 50)
 have oF:w.heap.size < (w3.alloc (L (yy dk ds dt dl dq di dp dg).toArray 50)).heap.size:=by have:=xQ.size; simp; omega
 clear xQ xy uL hz HX HM HB HS e0 e1 e2 e3 e4 e5 e6 e7 e8 e9 uO uy vQ uQ
 go_wp2_with fail
 generalize (w3.alloc (L (yy dk ds dt dl dq di dp dg).toArray 50)) = xo at xG qd xH vJ oF ⊢
 have xY:Hid (Bx xo.drew w.heap.size (yw 2 ck A ct F cq ci O cg id xj qty xk xi)):=zJ (U xG)
 have vN:Hid (MS cp B xo.drew vl vd va g t kd n0 dy l0):=zv (U qd) ⟨rfl,rfl,rfl,Nat.le_refl _,fun _ _=>rfl⟩
 have vv:Hid (yp w xo.drew):=⟨(U xH).os,(U xH).tape,(U xH).output,(U xH).size,(U xH).block⟩
 have vB:Hid (Bx xo.drew w3.heap.size (yy dk ds dt dl dq di dp dg)):=zJ (U vJ)
 clear xG qd xH vJ
 obtain ⟨d0,d1,d2,d3,d4,d5,d6,d7⟩:=yA (U vB)
 have c11:=K (U vN).box 11 rfl
 have c12:=K (U vN).box 12 rfl
 have vn:Hid (Calls Tryz.prog 106 #[.agg #[I n0,va],.agg (yy dk ds dt dl dq di dp dg).toArray] xo.drew fun e w'=>e = .returned (I (refR g.nx g.l ⟨dk,ds,dt,dl,dq,di,dp,dg⟩))∧Below xo.drew.heap.size xo.drew w'):=by
  have N:=(U vN).ahd
  rw [(U jy).2] at N
  have:=dW g.nx va g.l ⟨dk,ds,dt,dl,dq,di,dp,dg⟩ xo.drew N (U vN).sla (U qK) (U HSI) (U kX)
  rw [ref_eq] at this
  rw [(U jy).1]
  exact this
 refine zE 5 (by kernel_rfl) (by kernel_rfl) ?_
 simp only [yU,List.take_zero,yV,List.drop_zero]
 repeat still_step
 refine wpStill_nil ?_
 clear d0 d1 d2 d3 d4 d5 d6 d7 c11 c12
 go_wp2_with fail
 refine (U vn).mono ?_
 rintro e w5 ⟨rfl,uh⟩
 have uU:=H (zf (U xY) uh oF)
 have vy:=H (zv (U vN) uh)
 have uj:=H (fC (U vv) uh)
 clear uh vn xY vN vv vB
 generalize refR g.nx g.l ⟨dk,ds,dt,dl,dq,di,dp,dg⟩ = rr at vX ⊢
 have e0:=K (U uU) 0 rfl
 have e9:=K (U uU) 9 rfl
 have uy:=K (U uU) 11 rfl
 have uQ:=K (U uU) 13 rfl
 by_cases h0:rr = 0
 ·have b0:(rr == 0) = true:=by simpa using h0
  have HQ:Hid (fm = 4):=by show _ = _; rw [U vX]; simp [h0]
  clear h0
  go_wp2_with fail
  go_ret
  exact ⟨by rw [U HQ]; rfl,U uj⟩
 have b0:(rr == 0) = false:=by simpa using h0
 by_cases N:rr = xi
 ·have b1:(rr != xi) = false:=by simpa using N
  have HQ:Hid (fm = 0):=by show _ = _; rw [U vX,if_neg (fun h=>h.elim h0 (fun Y=>Y N))]
  clear h0 N
  go_wp2_with fail
  go_ret
  exact ⟨by rw [U HQ]; rfl,U uj⟩
 ·have b1:(rr != xi) = true:=by simpa using N
  have HQ:Hid (fm = 4):=by show _ = _; rw [U vX,if_pos (.inr N)]
  clear h0 N
  go_wp2_with fail
  go_ret
  exact ⟨by rw [U HQ]; rfl,U uj⟩
theorem first_7 {cp B:Nat} {vl vd va:Value} {g:Gr} {t:Od} {kd n0:Int} {dy l0:List Od} (ck A ct F cq ci:Int) (O:Nat) (cg:ByteArray) (id xj qty xk xi:Int) (w:World) (h:MS cp B w vl vd va g t kd n0 dy l0) (hi:GI g) (E:g.bg = 0) (hg:cg.size ≤ maxLen):Calls Tryz.prog 67 #[J cp 0,.agg (yw 7 ck A ct F cq ci O cg id xj qty xk xi).toArray] w fun x w'=>x = .returned (I (fstM g.nx g.l ⟨7,⟨ck,A,ct,F,cq,ci,O,cg⟩,id,xj,qty,xk,xi⟩))∧yp w w':=by
 have hsf:=sfl
 have vZ:=H (fun W=>cV 7 W (by decide))
 have uw:=H (fun W=>dU ⟨7,⟨ck,A,ct,F,cq,ci,O,cg⟩,id,xj,qty,xk,xi⟩ W (by show (1:Int) ≤ 7∧(7:Int) ≤ 9; decide))
 have qK:=H (hi.good (.inl (by omega)))
 have HSI:=H (hi.start E).2.2.1
 have xA:=hi.len
 have vX:Hid (fstM g.nx g.l ⟨7,⟨ck,A,ct,F,cq,ci,O,cg⟩,id,xj,qty,xk,xi⟩ = if refR g.nx g.l (aQ ⟨7,⟨ck,A,ct,F,cq,ci,O,cg⟩,id,xj,qty,xk,xi⟩) = 0 then (0) else 5):=by show _ = _; simp [fstM,zO]
 have kX:Hid ((aQ ⟨7,⟨ck,A,ct,F,cq,ci,O,cg⟩,id,xj,qty,xk,xi⟩).g.size ≤ maxLen):=dL hg
 have jy:=H (h.eqn E)
 generalize fstM g.nx g.l ⟨7,⟨ck,A,ct,F,cq,ci,O,cg⟩,id,xj,qty,xk,xi⟩ = fm at vX ⊢
 generalize aQ ⟨7,⟨ck,A,ct,F,cq,ci,O,cg⟩,id,xj,qty,xk,xi⟩ = c at uw vX kX
 unfold evV at uw
 simp only at uw
 obtain ⟨xz,HX⟩:=fE w (yw 7 ck A ct F cq ci O cg id xj qty xk xi) 52
 have HS:Hid ((w.alloc (L (yw 7 ck A ct F cq ci O cg id xj qty xk xi).toArray 52)).heap.size = w.heap.size + 1):=by show _ = _; simp
 have HM:=H (zv h xz)
 have HB:=H xz
 clear h xz hi E hg
 go_enter Tryz.func67,Tryz.ntmps67
 refine fD fun zb HK=>?_
 go_wp2_with fail
 refine U HK _ _ ?_
 clear HK
 generalize (w.alloc (L (yw 7 ck A ct F cq ci O cg id xj qty xk xi).toArray 52)) = W1 at HS HX HM HB ⊢
 obtain ⟨e0,e1,e2,e3,e4,e5,e6,e7,e8,e9,uO,uy,vQ,uQ⟩:=yz (U HX)
 go_wp2_with fail
 refine (U vZ W1).mono ?_
 rintro e w1 ⟨rfl,qx⟩
 rw [qx]
 clear qx
 go_wp2_with fail
 refine (U uw W1).mono ?_
 rintro e w3 ⟨rfl,xQ⟩
 have hz:=U HS
 obtain ⟨dk,ds,dt,dl,dq,di,dp,dg⟩:=c
 unfold cmV
 simp only
 have xy:=fw w3 (L (yy dk ds dt dl dq di dp dg).toArray 50)
 have uL:=xQ.trans (xy.mono xQ.size)
 have xG:=H (zf (U HX) uL (by omega))
 have qd:=H (zv (U HM) uL)
 have xH:=H (fC (U HB) uL)
 have vJ:=H (zq w3 (yy dk ds dt dl dq di dp dg) 50)
 have oF:w.heap.size < (w3.alloc (L (yy dk ds dt dl dq di dp dg).toArray 50)).heap.size:=by have:=xQ.size; simp; omega
 clear xQ xy uL hz HX HM HB HS e0 e1 e2 e3 e4 e5 e6 e7 e8 e9 uO uy vQ uQ
 go_wp2_with fail
 generalize (w3.alloc (L (yy dk ds dt dl dq di dp dg).toArray 50)) = xo at xG qd xH vJ oF ⊢
 have xY:Hid (Bx xo.drew w.heap.size (yw 7 ck A ct F cq ci O cg id xj qty xk xi)):=zJ (U xG)
 have vN:Hid (MS cp B xo.drew vl vd va g t kd n0 dy l0):=zv (U qd) ⟨rfl,rfl,rfl,Nat.le_refl _,fun _ _=>rfl⟩
 have vv:Hid (yp w xo.drew):=⟨(U xH).os,(U xH).tape,(U xH).output,(U xH).size,(U xH).block⟩
 have vB:Hid (Bx xo.drew w3.heap.size (yy dk ds dt dl dq di dp dg)):=zJ (U vJ)
 clear xG qd xH vJ
 obtain ⟨d0,d1,d2,d3,d4,d5,d6,d7⟩:=yA (U vB)
 have c11:=K (U vN).box 11 rfl
 have c12:=K (U vN).box 12 rfl
 have vn:Hid (Calls Tryz.prog 106 #[.agg #[I n0,va],.agg (yy dk ds dt dl dq di dp dg).toArray] xo.drew fun e w'=>e = .returned (I (refR g.nx g.l ⟨dk,ds,dt,dl,dq,di,dp,dg⟩))∧Below xo.drew.heap.size xo.drew w'):=by
  have N:=(U vN).ahd
  rw [(U jy).2] at N
  have:=dW g.nx va g.l ⟨dk,ds,dt,dl,dq,di,dp,dg⟩ xo.drew N (U vN).sla (U qK) (U HSI) (U kX)
  rw [ref_eq] at this
  rw [(U jy).1]
  exact this
 refine zE 5 (by kernel_rfl) (by kernel_rfl) ?_
 simp only [yU,List.take_zero,yV,List.drop_zero]
 repeat still_step
 refine wpStill_nil ?_
 clear d0 d1 d2 d3 d4 d5 d6 d7 c11 c12
 go_wp2_with fail
 refine (U vn).mono ?_
 rintro e w5 ⟨rfl,uh⟩
 have uU:=H (zf (U xY) uh oF)
 have vy:=H (zv (U vN) uh)
 have uj:=H (fC (U vv) uh)
 clear uh vn xY vN vv vB
 generalize refR g.nx g.l ⟨dk,ds,dt,dl,dq,di,dp,dg⟩ = rr at vX ⊢
 have e0:=K (U uU) 0 rfl
 have e9:=K (U uU) 9 rfl
 have uy:=K (U uU) 11 rfl
 have uQ:=K (U uU) 13 rfl
 by_cases h0:rr = 0
 case neg =>
  have b0:(rr != 0) = true:=by simpa using h0
  have HQ:Hid (fm = 5):=by show _ = _; rw [U vX,if_neg h0]
  clear h0
  go_wp2_with fail
  go_ret
  exact ⟨by rw [U HQ]; rfl,U uj⟩
 have b0:(rr != 0) = false:=by simpa using h0
 have vC:=H (U vX)
 rw [if_pos h0] at vC
 clear h0 vX
 go_wp2_with fail
 go_ret
 exact ⟨by rw [U vC]; rfl,U uj⟩
theorem first_1 {cp B:Nat} {vl vd va:Value} {g:Gr} {t:Od} {kd n0:Int} {dy l0:List Od} (ck A ct F cq ci:Int) (O:Nat) (cg:ByteArray) (id xj qty xk xi:Int) (w:World) (h:MS cp B w vl vd va g t kd n0 dy l0) (hi:GI g) (E:g.bg = 0) (hg:cg.size ≤ maxLen):Calls Tryz.prog 67 #[J cp 0,.agg (yw 1 ck A ct F cq ci O cg id xj qty xk xi).toArray] w fun x w'=>x = .returned (I (fstM g.nx g.l ⟨1,⟨ck,A,ct,F,cq,ci,O,cg⟩,id,xj,qty,xk,xi⟩))∧yp w w':=by
 have hsf:=sfl
 have vZ:=H (fun W=>cV 1 W (by decide))
 have uw:=H (fun W=>dU ⟨1,⟨ck,A,ct,F,cq,ci,O,cg⟩,id,xj,qty,xk,xi⟩ W (by show (1:Int) ≤ 1∧(1:Int) ≤ 9; decide))
 have qK:=H (hi.good (.inl (by omega)))
 have HSI:=H (hi.start E).2.2.1
 have xA:=hi.len
 have vX:Hid (fstM g.nx g.l ⟨1,⟨ck,A,ct,F,cq,ci,O,cg⟩,id,xj,qty,xk,xi⟩ = if refR g.nx g.l (aQ ⟨1,⟨ck,A,ct,F,cq,ci,O,cg⟩,id,xj,qty,xk,xi⟩) = 0 then (if id = g.nx then 0 else 6) else 5):=by show _ = _; simp [fstM,zO]
 have kX:Hid ((aQ ⟨1,⟨ck,A,ct,F,cq,ci,O,cg⟩,id,xj,qty,xk,xi⟩).g.size ≤ maxLen):=dL hg
 have jy:=H (h.eqn E)
 generalize fstM g.nx g.l ⟨1,⟨ck,A,ct,F,cq,ci,O,cg⟩,id,xj,qty,xk,xi⟩ = fm at vX ⊢
 generalize aQ ⟨1,⟨ck,A,ct,F,cq,ci,O,cg⟩,id,xj,qty,xk,xi⟩ = c at uw vX kX
 unfold evV at uw
 simp only at uw
 obtain ⟨xz,HX⟩:=fE w (yw 1 ck A ct F cq ci O cg id xj qty xk xi) 52
 have HS:Hid ((w.alloc (L (yw 1 ck A ct F cq ci O cg id xj qty xk xi).toArray 52)).heap.size = w.heap.size + 1):=by show _ = _; simp
 have HM:=H (zv h xz)
 have HB:=H xz
 clear h xz hi E hg
 go_enter Tryz.func67,Tryz.ntmps67
 refine fD fun zb HK=>?_
 go_wp2_with fail
 refine U HK _ _ ?_
 clear HK
 generalize (w.alloc (L (yw 1 ck A ct F cq ci O cg id xj qty xk xi).toArray 52)) = W1 at HS HX HM HB ⊢
 obtain ⟨e0,e1,e2,e3,e4,e5,e6,e7,e8,e9,uO,uy,vQ,uQ⟩:=yz (U HX)
 go_wp2_with fail
 refine (U vZ W1).mono ?_
 rintro e w1 ⟨rfl,qx⟩
 rw [qx]
 clear qx
 go_wp2_with fail
 refine (U uw W1).mono ?_
 rintro e w3 ⟨rfl,xQ⟩
 have hz:=U HS
 obtain ⟨dk,ds,dt,dl,dq,di,dp,dg⟩:=c
 unfold cmV
 simp only
 have xy:=fw w3 (L (yy dk ds dt dl dq di dp dg).toArray 50)
 have uL:=xQ.trans (xy.mono xQ.size)
 have xG:=H (zf (U HX) uL (by omega))
 have qd:=H (zv (U HM) uL)
 have xH:=H (fC (U HB) uL)
 have vJ:=H (zq w3 (yy dk ds dt dl dq di dp dg) 50)
 have oF:w.heap.size < (w3.alloc (L (yy dk ds dt dl dq di dp dg).toArray 50)).heap.size:=by have:=xQ.size; simp; omega
 clear xQ xy uL hz HX HM HB HS e0 e1 e2 e3 e4 e5 e6 e7 e8 e9 uO uy vQ uQ
 go_wp2_with fail
 generalize (w3.alloc (L (yy dk ds dt dl dq di dp dg).toArray 50)) = xo at xG qd xH vJ oF ⊢
 have xY:Hid (Bx xo.drew w.heap.size (yw 1 ck A ct F cq ci O cg id xj qty xk xi)):=zJ (U xG)
 have vN:Hid (MS cp B xo.drew vl vd va g t kd n0 dy l0):=zv (U qd) ⟨rfl,rfl,rfl,Nat.le_refl _,fun _ _=>rfl⟩
 have vv:Hid (yp w xo.drew):=⟨(U xH).os,(U xH).tape,(U xH).output,(U xH).size,(U xH).block⟩
 have vB:Hid (Bx xo.drew w3.heap.size (yy dk ds dt dl dq di dp dg)):=zJ (U vJ)
 clear xG qd xH vJ
 obtain ⟨d0,d1,d2,d3,d4,d5,d6,d7⟩:=yA (U vB)
 have c11:=K (U vN).box 11 rfl
 have c12:=K (U vN).box 12 rfl
 have vn:Hid (Calls Tryz.prog 106 #[.agg #[I n0,va],.agg (yy dk ds dt dl dq di dp dg).toArray] xo.drew fun e w'=>e = .returned (I (refR g.nx g.l ⟨dk,ds,dt,dl,dq,di,dp,dg⟩))∧Below xo.drew.heap.size xo.drew w'):=by
  have N:=(U vN).ahd
  rw [(U jy).2] at N
  have:=dW g.nx va g.l ⟨dk,ds,dt,dl,dq,di,dp,dg⟩ xo.drew N (U vN).sla (U qK) (U HSI) (U kX)
  rw [ref_eq] at this
  rw [(U jy).1]
  exact this
 refine zE 5 (by kernel_rfl) (by kernel_rfl) ?_
 simp only [yU,List.take_zero,yV,List.drop_zero]
 repeat still_step
 refine wpStill_nil ?_
 clear d0 d1 d2 d3 d4 d5 d6 d7 c11 c12
 go_wp2_with fail
 refine (U vn).mono ?_
 rintro e w5 ⟨rfl,uh⟩
 have uU:=H (zf (U xY) uh oF)
 have vy:=H (zv (U vN) uh)
 have uj:=H (fC (U vv) uh)
 clear uh vn xY vN vv vB
 generalize refR g.nx g.l ⟨dk,ds,dt,dl,dq,di,dp,dg⟩ = rr at vX ⊢
 have e0:=K (U uU) 0 rfl
 have e9:=K (U uU) 9 rfl
 have uy:=K (U uU) 11 rfl
 have uQ:=K (U uU) 13 rfl
 by_cases h0:rr = 0
 case neg =>
  have b0:(rr != 0) = true:=by simpa using h0
  have HQ:Hid (fm = 5):=by show _ = _; rw [U vX,if_neg h0]
  clear h0
  go_wp2_with fail
  go_ret
  exact ⟨by rw [U HQ]; rfl,U uj⟩
 have b0:(rr != 0) = false:=by simpa using h0
 have vC:=H (U vX)
 rw [if_pos h0] at vC
 clear h0 vX
 have c0:=K (U vy).box 0 rfl
 by_cases N:id = g.nx
 ·have b1:(id != g.nx) = false:=by simpa using N
  rw [if_pos N] at vC
  clear N
  go_wp2_with fail
  go_quiet (fail)
  go_wp2_with fail
  go_ret
  exact ⟨by rw [U vC]; rfl,zV (U uj) _⟩
 ·have b1:(id != g.nx) = true:=by simpa using N
  rw [if_neg N] at vC
  clear N
  go_wp2_with fail
  go_quiet (fail)
  go_wp2_with fail
  go_ret
  exact ⟨by rw [U vC]; rfl,zV (U uj) _⟩
end Go.Proofs.YtnphbkgfjanmgaaGreatDoor
