/-
  The rule that a later event of a group breaks, by the model: proved by walking the method.
-/
import Derived.Test.YtnphbkgfjanmgaaGreatDoorAj32
import Derived.Lib.QuietBelow
set_option linter.unusedVariables false
set_option maxHeartbeats 6400000
set_option maxRecDepth 100000
namespace Go.Proofs.YtnphbkgfjanmgaaGreatDoor
open Go.RowKit
theorem dV (k:Int) (w:World) (hk:1 ≤ k∧k ≤ 9):Calls Tryz.prog 104 #[I k] w fun e w'=>e = .returned (.bool (zQ k))∧w' = w:=by
 rcases (show k = 1 ∨ k = 2 ∨ k = 3 ∨ k = 4 ∨ k = 5 ∨ k = 6 ∨ k = 7 ∨ k = 8 ∨ k = 9 by omega) with rfl | rfl | rfl | rfl | rfl | rfl | rfl | rfl | rfl
 all_goals
  clear hk
  go_enter Tryz.func104,Tryz.ntmps104
  go_wp2_with fail
  go_ret
  exact ⟨rfl,rfl⟩
theorem later_any {cp B:Nat} {vl vd va:Value} {g:Gr} {t:Od} {kd n0:Int} {dy l0:List Od} (e:Ev) (w:World) (h:MS cp B w vl vd va g t kd n0 dy l0) (hi:GI g) (hm:MR g t kd dy) (hk:1 ≤ e.kind∧e.kind ≤ 9):Calls Tryz.prog 66 #[J cp 0,evV e] w fun x w'=>x = .returned (I (latM (dueG g) e))∧yp w w':=by
 have hsf:=sfl
 have kg:=H (fun W (hW:MS cp B W vl vd va g t kd n0 dy l0)=>mdue_any W hW hi hm)
 have qg:=H (fun W=>dV e.kind W hk)
 generalize dueG g = d at kg ⊢
 have jW:Hid (latM d e = if zQ e.kind = true then 3 else if d.kind = 0 then 8 else if d.kind = 9 ∨ e.kind = 9 then (if ((e.kind == d.kind) && ((e.id == d.id) && (e.qty == d.qty))) = true then 0 else 14) else if d.kind ≠ 3 then (if e.kind = 3 then 9 else if ((e.kind == d.kind) && ((e.id == d.id) && (e.qty == d.qty))) = true then 0 else 13) else if e.kind ≠ 3 then 13 else if e.id ≠ d.id then 9 else if e.other ≠ d.other then 10 else if e.price ≠ d.price then 11 else if e.qty ≠ d.qty then 12 else 0):=rfl
 generalize latM d e = lm at jW ⊢
 generalize zQ e.kind = sb at qg jW
 obtain ⟨xn,⟨ck,L,ct,V,cq,ci,O,cg⟩,id,xj,qty,xk,xi⟩:=e
 obtain ⟨dk,di,dt,dq,dp⟩:=d
 unfold duV at kg
 unfold evV
 simp only at kg qg jW ⊢
 obtain ⟨xC,HX⟩:=gw w (yw xn ck L ct V cq ci O cg id xj qty xk xi) 52
 have HS:Hid ((w.alloc (A (yw xn ck L ct V cq ci O cg id xj qty xk xi).toArray 52)).heap.size = w.heap.size + 1):=by show _ = _; simp
 have HM:=H (zx h xC)
 have HB:=H xC
 clear h xC hi hm hk
 go_enter Tryz.func66,Tryz.ntmps66
 refine gv fun hR HK=>?_
 go_wp2_with fail
 refine U HK _ _ ?_
 clear HK
 generalize (w.alloc (A (yw xn ck L ct V cq ci O cg id xj qty xk xi).toArray 52)) = W1 at HS HX HM HB ⊢
 go_wp2_with fail
 refine (U kg W1 (U HM)).mono ?_
 rintro e w2 ⟨rfl,xK⟩
 obtain ⟨xy,vL⟩:=gw w2 [I dk,I di,I dt,I dq,I dp] 29
 have hb24:=xK.trans (xy.mono xK.size)
 have xG:=H (zf (U HX) hb24 (by have:=U HS; omega))
 have xH:=H (gu (U HB) hb24)
 clear xK xy hb24 HX HM HB HS kg
 have e0:=R (U xG) 0 rfl
 go_wp2_with fail
 generalize (w2.alloc (A #[I dk,I di,I dt,I dq,I dp] 29)) = hj at xG xH vL e0 ⊢
 refine (U qg hj).mono ?_
 rintro e X2 ⟨rfl,jF⟩
 rw [← jF] at xG xH vL e0
 clear jF qg
 have e9:=R (U xG) 9 rfl
 have uR:=R (U xG) 10 rfl
 have uA:=R (U xG) 11 rfl
 have vV:=R (U xG) 12 rfl
 have v0:=R (U vL) 0 rfl
 have v1:=R (U vL) 1 rfl
 have v2:=R (U vL) 2 rfl
 have v3:=R (U vL) 3 rfl
 have v4:=R (U vL) 4 rfl
 cases sb
 ·by_cases hd0:dk = 0
  ·have f_hd0:(dk == 0) = true:=by simpa using hd0
   have HQ:Hid (lm = 8):=by show _ = _; rw [U jW]; grind
   clear hd0
   go_wp2_with fail
   go_ret
   exact ⟨by rw [U HQ]; rfl,U xH⟩
  ·have f_hd0:(dk == 0) = false:=by simpa using hd0
   by_cases hd9:dk = 9
   ·have f_hd9:(dk == 9) = true:=by simpa using hd9
    by_cases hkd:xn = dk
    ·have pn:(xn != dk) = false:=by simpa using hkd
     by_cases uj:id = di
     ·have ko:(id != di) = false:=by simpa using uj
      by_cases hqd:qty = dq
      ·have kp:(qty != dq) = false:=by simpa using hqd
       have HQ:Hid (lm = 0):=by show _ = _; rw [U jW]; grind
       clear hd0 hd9 hkd uj hqd
       go_wp2_with fail
       go_ret
       exact ⟨by rw [U HQ]; rfl,U xH⟩
      ·have kp:(qty != dq) = true:=by simpa using hqd
       have HQ:Hid (lm = 14):=by show _ = _; rw [U jW]; grind
       clear hd0 hd9 hkd uj hqd
       go_wp2_with fail
       go_ret
       exact ⟨by rw [U HQ]; rfl,U xH⟩
     ·have ko:(id != di) = true:=by simpa using uj
      have HQ:Hid (lm = 14):=by show _ = _; rw [U jW]; grind
      clear hd0 hd9 hkd uj
      go_wp2_with fail
      go_ret
      exact ⟨by rw [U HQ]; rfl,U xH⟩
    ·have pn:(xn != dk) = true:=by simpa using hkd
     have HQ:Hid (lm = 14):=by show _ = _; rw [U jW]; grind
     clear hd0 hd9 hkd
     go_wp2_with fail
     go_ret
     exact ⟨by rw [U HQ]; rfl,U xH⟩
   ·have f_hd9:(dk == 9) = false:=by simpa using hd9
    by_cases jR:xn = 9
    ·have f_hk9:(xn == 9) = true:=by simpa using jR
     by_cases hkd:xn = dk
     ·have pn:(xn != dk) = false:=by simpa using hkd
      by_cases uj:id = di
      ·have ko:(id != di) = false:=by simpa using uj
       by_cases hqd:qty = dq
       ·have kp:(qty != dq) = false:=by simpa using hqd
        have HQ:Hid (lm = 0):=by show _ = _; rw [U jW]; grind
        clear hd0 hd9 jR hkd uj hqd
        go_wp2_with fail
        go_ret
        exact ⟨by rw [U HQ]; rfl,U xH⟩
       ·have kp:(qty != dq) = true:=by simpa using hqd
        have HQ:Hid (lm = 14):=by show _ = _; rw [U jW]; grind
        clear hd0 hd9 jR hkd uj hqd
        go_wp2_with fail
        go_ret
        exact ⟨by rw [U HQ]; rfl,U xH⟩
      ·have ko:(id != di) = true:=by simpa using uj
       have HQ:Hid (lm = 14):=by show _ = _; rw [U jW]; grind
       clear hd0 hd9 jR hkd uj
       go_wp2_with fail
       go_ret
       exact ⟨by rw [U HQ]; rfl,U xH⟩
     ·have pn:(xn != dk) = true:=by simpa using hkd
      have HQ:Hid (lm = 14):=by show _ = _; rw [U jW]; grind
      clear hd0 hd9 jR hkd
      go_wp2_with fail
      go_ret
      exact ⟨by rw [U HQ]; rfl,U xH⟩
    ·have f_hk9:(xn == 9) = false:=by simpa using jR
     by_cases ax:dk = 3
     ·have g_hd3:(dk != 3) = false:=by simpa using ax
      by_cases hk3:xn = 3
      ·have f_hk3:(xn == 3) = true:=by simpa using hk3
       have g_hk3:(xn != 3) = false:=by simpa using hk3
       by_cases uj:id = di
       ·have ko:(id != di) = false:=by simpa using uj
        by_cases pw:xj = dt
        ·have g_hot:(xj != dt) = false:=by simpa using pw
         by_cases hpr:xk = dp
         ·have g_hpr:(xk != dp) = false:=by simpa using hpr
          by_cases hqd:qty = dq
          ·have kp:(qty != dq) = false:=by simpa using hqd
           have HQ:Hid (lm = 0):=by show _ = _; rw [U jW]; grind
           clear hd0 hd9 jR ax hk3 uj pw hpr hqd
           go_wp2_with fail
           go_ret
           exact ⟨by rw [U HQ]; rfl,U xH⟩
          ·have kp:(qty != dq) = true:=by simpa using hqd
           have HQ:Hid (lm = 12):=by show _ = _; rw [U jW]; grind
           clear hd0 hd9 jR ax hk3 uj pw hpr hqd
           go_wp2_with fail
           go_ret
           exact ⟨by rw [U HQ]; rfl,U xH⟩
         ·have g_hpr:(xk != dp) = true:=by simpa using hpr
          have HQ:Hid (lm = 11):=by show _ = _; rw [U jW]; grind
          clear hd0 hd9 jR ax hk3 uj pw hpr
          go_wp2_with fail
          go_ret
          exact ⟨by rw [U HQ]; rfl,U xH⟩
        ·have g_hot:(xj != dt) = true:=by simpa using pw
         have HQ:Hid (lm = 10):=by show _ = _; rw [U jW]; grind
         clear hd0 hd9 jR ax hk3 uj pw
         go_wp2_with fail
         go_ret
         exact ⟨by rw [U HQ]; rfl,U xH⟩
       ·have ko:(id != di) = true:=by simpa using uj
        have HQ:Hid (lm = 9):=by show _ = _; rw [U jW]; grind
        clear hd0 hd9 jR ax hk3 uj
        go_wp2_with fail
        go_ret
        exact ⟨by rw [U HQ]; rfl,U xH⟩
      ·have f_hk3:(xn == 3) = false:=by simpa using hk3
       have g_hk3:(xn != 3) = true:=by simpa using hk3
       have HQ:Hid (lm = 13):=by show _ = _; rw [U jW]; grind
       clear hd0 hd9 jR ax hk3
       go_wp2_with fail
       go_ret
       exact ⟨by rw [U HQ]; rfl,U xH⟩
     ·have g_hd3:(dk != 3) = true:=by simpa using ax
      by_cases hk3:xn = 3
      ·have f_hk3:(xn == 3) = true:=by simpa using hk3
       have g_hk3:(xn != 3) = false:=by simpa using hk3
       have HQ:Hid (lm = 9):=by show _ = _; rw [U jW]; grind
       clear hd0 hd9 jR ax hk3
       go_wp2_with fail
       go_ret
       exact ⟨by rw [U HQ]; rfl,U xH⟩
      ·have f_hk3:(xn == 3) = false:=by simpa using hk3
       have g_hk3:(xn != 3) = true:=by simpa using hk3
       by_cases hkd:xn = dk
       ·have pn:(xn != dk) = false:=by simpa using hkd
        by_cases uj:id = di
        ·have ko:(id != di) = false:=by simpa using uj
         by_cases hqd:qty = dq
         ·have kp:(qty != dq) = false:=by simpa using hqd
          have HQ:Hid (lm = 0):=by show _ = _; rw [U jW]; grind
          clear hd0 hd9 jR ax hk3 hkd uj hqd
          go_wp2_with fail
          go_ret
          exact ⟨by rw [U HQ]; rfl,U xH⟩
         ·have kp:(qty != dq) = true:=by simpa using hqd
          have HQ:Hid (lm = 13):=by show _ = _; rw [U jW]; grind
          clear hd0 hd9 jR ax hk3 hkd uj hqd
          go_wp2_with fail
          go_ret
          exact ⟨by rw [U HQ]; rfl,U xH⟩
        ·have ko:(id != di) = true:=by simpa using uj
         have HQ:Hid (lm = 13):=by show _ = _; rw [U jW]; grind
         clear hd0 hd9 jR ax hk3 hkd uj
         go_wp2_with fail
         go_ret
         exact ⟨by rw [U HQ]; rfl,U xH⟩
       ·have pn:(xn != dk) = true:=by simpa using hkd
        have HQ:Hid (lm = 13):=by show _ = _; rw [U jW]; grind
        clear hd0 hd9 jR ax hk3 hkd
        go_wp2_with fail
        go_ret
        exact ⟨by rw [U HQ]; rfl,U xH⟩
 ·have HQ:Hid (lm = 3):=by show _ = _; rw [U jW]; grind
  go_wp2_with fail
  go_ret
  exact ⟨by rw [U HQ]; rfl,U xH⟩
theorem eI (e:Ev) (w:World) (hk:1 ≤ e.kind∧e.kind ≤ 9):Calls Tryz.prog 105 #[evV e] w fun r w'=>r = .returned (.tuple #[cmV (bA e),.bool (zQ e.kind)])∧yp w w':=by
 have hsf:=sfl
 obtain ⟨xn,⟨ck,L,ct,V,cq,ci,O,cg⟩,id,xj,qty,xk,xi⟩:=e
 simp only at hk
 unfold evV bA cmV zCm zQ
 simp only
 rcases (show xn = 1 ∨ xn = 2 ∨ xn = 3 ∨ xn = 4 ∨ xn = 5 ∨ xn = 6 ∨ xn = 7 ∨ xn = 8 ∨ xn = 9 by omega) with rfl | rfl | rfl | rfl | rfl | rfl | rfl | rfl | rfl
 all_goals
  clear hk
  simp
  go_enter Tryz.func105,Tryz.ntmps105
  go_wp2_with fail
  go_returns
  exact ⟨rfl,by go_grown⟩
def DYc (vs:List (Option Value)) (n:Nat) (p:Prop) (cl:World) (j:Nat) (v:Value):Prop:=(j = 6→∃ a c,v = .slice a n c)∧∀ u,vs[j]? = some (some u)→v = u
theorem dyc_mono {vs:List (Option Value)} {n:Nat}:∀ p W W' j v,yp W W'→DYc vs n p W j v→DYc vs n p W' j v:=fun _ _ _ _ _ _ h=>h
theorem iRow_slice {W:World} {B:Nat} {v:Value} {l:List Nat} (h:IRow W B v l):∃ a c,v = .slice a l.length c:=by
 rcases h.2 with ⟨e,e2⟩ | ⟨g,cap,xF,e,_⟩
 ·exact ⟨none,0,by rw [e,e2]⟩
 ·exact ⟨_,_,e⟩
theorem fI (k ck L ct V cq ci:Int) (O:Nat) (cg:ByteArray) (id xj qty xk xi:Int) (cp:Nat) (g:Gr) (w:World) (hk:1 ≤ k∧k ≤ 9) (hs:zQ k = false):Calls Tryz.prog 67 #[J cp 0,.agg (yw k ck L ct V cq ci O cg id xj qty xk xi).toArray] w fun x w'=>x = .returned (I (fstM g.nx g.l ⟨k,⟨ck,L,ct,V,cq,ci,O,cg⟩,id,xj,qty,xk,xi⟩))∧yp w w':=by
 have hsf:=sfl
 have qg:=H (fun W=>dV k W hk)
 rw [hs] at qg
 have qf:Hid (fstM g.nx g.l ⟨k,⟨ck,L,ct,V,cq,ci,O,cg⟩,id,xj,qty,xk,xi⟩ = 3):=by show _ = _; simp [fstM,hs]
 generalize fstM g.nx g.l ⟨k,⟨ck,L,ct,V,cq,ci,O,cg⟩,id,xj,qty,xk,xi⟩ = fm at qf ⊢
 have HX:=H (zq w (yw k ck L ct V cq ci O cg id xj qty xk xi) 52)
 have HB:Hid (yp w (w.alloc (A (yw k ck L ct V cq ci O cg id xj qty xk xi).toArray 52))):=gp _ _
 clear hk hs
 go_enter Tryz.func67,Tryz.ntmps67
 refine gv fun hR HK=>?_
 go_wp2_with fail
 refine U HK _ _ ?_
 clear HK
 generalize (w.alloc (A (yw k ck L ct V cq ci O cg id xj qty xk xi).toArray 52)) = W1 at HX HB ⊢
 have e0:=R (U HX) 0 rfl
 go_wp2_with fail
 refine (U qg W1).mono ?_
 rintro e w1 ⟨rfl,qE⟩
 rw [qE]
 clear qE
 go_wp2_with fail
 go_ret
 exact ⟨by rw [U qf]; rfl,U HB⟩
theorem first_2 {cp B:Nat} {vl vd va:Value} {g:Gr} {t:Od} {kd n0:Int} {dy l0:List Od} (ck L ct V cq ci:Int) (O:Nat) (cg:ByteArray) (id xj qty xk xi:Int) (w:World) (h:MS cp B w vl vd va g t kd n0 dy l0) (hi:GI g) (Q:g.bg = 0) (hg:cg.size ≤ maxLen):Calls Tryz.prog 67 #[J cp 0,.agg (yw 2 ck L ct V cq ci O cg id xj qty xk xi).toArray] w fun x w'=>x = .returned (I (fstM g.nx g.l ⟨2,⟨ck,L,ct,V,cq,ci,O,cg⟩,id,xj,qty,xk,xi⟩))∧yp w w':=by
 have hsf:=sfl
 have qg:=H (fun W=>dV 2 W (by decide))
 have uy:=H (fun W=>eI ⟨2,⟨ck,L,ct,V,cq,ci,O,cg⟩,id,xj,qty,xk,xi⟩ W (by show (1:Int) ≤ 2∧(2:Int) ≤ 9; decide))
 have qR:=H (hi.good (.inl (by omega)))
 have HSI:=H (hi.start Q).2.2.1
 have xz:=hi.len
 have qf:Hid (fstM g.nx g.l ⟨2,⟨ck,L,ct,V,cq,ci,O,cg⟩,id,xj,qty,xk,xi⟩ = if refR g.nx g.l (bA ⟨2,⟨ck,L,ct,V,cq,ci,O,cg⟩,id,xj,qty,xk,xi⟩) = 0 ∨ ¬ refR g.nx g.l (bA ⟨2,⟨ck,L,ct,V,cq,ci,O,cg⟩,id,xj,qty,xk,xi⟩) = xi then 4 else 0):=by show _ = _; simp [fstM,zQ]
 have ow:Hid ((bA ⟨2,⟨ck,L,ct,V,cq,ci,O,cg⟩,id,xj,qty,xk,xi⟩).g.size ≤ maxLen):=ez hg
 have aQ:=H (h.eqn Q)
 generalize fstM g.nx g.l ⟨2,⟨ck,L,ct,V,cq,ci,O,cg⟩,id,xj,qty,xk,xi⟩ = fm at qf ⊢
 generalize bA ⟨2,⟨ck,L,ct,V,cq,ci,O,cg⟩,id,xj,qty,xk,xi⟩ = c at uy qf ow
 unfold evV at uy
 simp only at uy
 obtain ⟨xC,HX⟩:=gw w (yw 2 ck L ct V cq ci O cg id xj qty xk xi) 52
 have HS:Hid ((w.alloc (A (yw 2 ck L ct V cq ci O cg id xj qty xk xi).toArray 52)).heap.size = w.heap.size + 1):=by show _ = _; simp
 have HM:=H (zx h xC)
 have HB:=H xC
 clear h xC hi Q hg
 go_enter Tryz.func67,Tryz.ntmps67
 refine gv fun hR HK=>?_
 go_wp2_with fail
 refine U HK _ _ ?_
 clear HK
 generalize (w.alloc (A (yw 2 ck L ct V cq ci O cg id xj qty xk xi).toArray 52)) = W1 at HS HX HM HB ⊢
 obtain ⟨e0,e1,e2,e3,e4,e5,e6,e7,e8,e9,uR,uA,vV,uT⟩:=yz (U HX)
 go_wp2_with fail
 refine (U qg W1).mono ?_
 rintro e w1 ⟨rfl,qE⟩
 rw [qE]
 clear qE
 go_wp2_with fail
 refine (U uy W1).mono ?_
 rintro e w3 ⟨rfl,xQ⟩
 have hz:=U HS
 obtain ⟨dk,ds,dt,dl,dq,di,dp,dg⟩:=c
 unfold cmV
 simp only
 have xy:=gp w3 (A (yy dk ds dt dl dq di dp dg).toArray 50)
 have uO:=xQ.trans (xy.mono xQ.size)
 have xG:=H (zf (U HX) uO (by omega))
 have qk:=H (zx (U HM) uO)
 have xH:=H (gu (U HB) uO)
 have vL:=H (zq w3 (yy dk ds dt dl dq di dp dg) 50)
 have oV:w.heap.size < (w3.alloc (A (yy dk ds dt dl dq di dp dg).toArray 50)).heap.size:=by have:=xQ.size; simp; omega
 clear xQ xy uO hz HX HM HB HS e0 e1 e2 e3 e4 e5 e6 e7 e8 e9 uR uA vV uT
 go_wp2_with fail
 generalize (w3.alloc (A (yy dk ds dt dl dq di dp dg).toArray 50)) = hj at xG qk xH vL oV ⊢
 have xV:Hid (Bx hj.drew w.heap.size (yw 2 ck L ct V cq ci O cg id xj qty xk xi)):=zK (U xG)
 have vS:Hid (MS cp B hj.drew vl vd va g t kd n0 dy l0):=zx (U qk) ⟨rfl,rfl,rfl,Nat.le_refl _,fun _ _=>rfl⟩
 have vu:Hid (yp w hj.drew):=⟨(U xH).os,(U xH).tape,(U xH).output,(U xH).size,(U xH).block⟩
 have vD:Hid (Bx hj.drew w3.heap.size (yy dk ds dt dl dq di dp dg)):=zK (U vL)
 clear xG qk xH vL
 obtain ⟨d0,d1,d2,d3,d4,d5,d6,d7⟩:=yA (U vD)
 have c11:=R (U vS).box 11 rfl
 have c12:=R (U vS).box 12 rfl
 have vv:Hid (Calls Tryz.prog 106 #[.agg #[I n0,va],.agg (yy dk ds dt dl dq di dp dg).toArray] hj.drew fun e w'=>e = .returned (I (refR g.nx g.l ⟨dk,ds,dt,dl,dq,di,dp,dg⟩))∧Below hj.drew.heap.size hj.drew w'):=by
  have N:=(U vS).ahd
  rw [(U aQ).2] at N
  have:=eK g.nx va g.l ⟨dk,ds,dt,dl,dq,di,dp,dg⟩ hj.drew N (U vS).sla (U qR) (U HSI) (U ow)
  rw [ref_eq] at this
  rw [(U aQ).1]
  exact this
 refine zF 5 (by kernel_rfl) (by kernel_rfl) ?_
 simp only [yU,List.take_zero,yV,List.drop_zero]
 repeat still_step
 refine wpStill_nil ?_
 clear d0 d1 d2 d3 d4 d5 d6 d7 c11 c12
 go_wp2_with fail
 refine (U vv).mono ?_
 rintro e w5 ⟨rfl,ui⟩
 have uX:=H (zf (U xV) ui oV)
 have vB:=H (zx (U vS) ui)
 have uk:=H (gu (U vu) ui)
 clear ui vv xV vS vu vD
 generalize refR g.nx g.l ⟨dk,ds,dt,dl,dq,di,dp,dg⟩ = rr at qf ⊢
 have e0:=R (U uX) 0 rfl
 have e9:=R (U uX) 9 rfl
 have uA:=R (U uX) 11 rfl
 have uT:=R (U uX) 13 rfl
 by_cases h0:rr = 0
 ·have b0:(rr == 0) = true:=by simpa using h0
  have HQ:Hid (fm = 4):=by show _ = _; rw [U qf]; simp [h0]
  clear h0
  go_wp2_with fail
  go_ret
  exact ⟨by rw [U HQ]; rfl,U uk⟩
 have b0:(rr == 0) = false:=by simpa using h0
 by_cases N:rr = xi
 ·have b1:(rr != xi) = false:=by simpa using N
  have HQ:Hid (fm = 0):=by show _ = _; rw [U qf,if_neg (fun h=>h.elim h0 (fun Y=>Y N))]
  clear h0 N
  go_wp2_with fail
  go_ret
  exact ⟨by rw [U HQ]; rfl,U uk⟩
 ·have b1:(rr != xi) = true:=by simpa using N
  have HQ:Hid (fm = 4):=by show _ = _; rw [U qf,if_pos (.inr N)]
  clear h0 N
  go_wp2_with fail
  go_ret
  exact ⟨by rw [U HQ]; rfl,U uk⟩
theorem first_7 {cp B:Nat} {vl vd va:Value} {g:Gr} {t:Od} {kd n0:Int} {dy l0:List Od} (ck L ct V cq ci:Int) (O:Nat) (cg:ByteArray) (id xj qty xk xi:Int) (w:World) (h:MS cp B w vl vd va g t kd n0 dy l0) (hi:GI g) (Q:g.bg = 0) (hg:cg.size ≤ maxLen):Calls Tryz.prog 67 #[J cp 0,.agg (yw 7 ck L ct V cq ci O cg id xj qty xk xi).toArray] w fun x w'=>x = .returned (I (fstM g.nx g.l ⟨7,⟨ck,L,ct,V,cq,ci,O,cg⟩,id,xj,qty,xk,xi⟩))∧yp w w':=by
 have hsf:=sfl
 have qg:=H (fun W=>dV 7 W (by decide))
 have uy:=H (fun W=>eI ⟨7,⟨ck,L,ct,V,cq,ci,O,cg⟩,id,xj,qty,xk,xi⟩ W (by show (1:Int) ≤ 7∧(7:Int) ≤ 9; decide))
 have qR:=H (hi.good (.inl (by omega)))
 have HSI:=H (hi.start Q).2.2.1
 have xz:=hi.len
 have qf:Hid (fstM g.nx g.l ⟨7,⟨ck,L,ct,V,cq,ci,O,cg⟩,id,xj,qty,xk,xi⟩ = if refR g.nx g.l (bA ⟨7,⟨ck,L,ct,V,cq,ci,O,cg⟩,id,xj,qty,xk,xi⟩) = 0 then (0) else 5):=by show _ = _; simp [fstM,zQ]
 have ow:Hid ((bA ⟨7,⟨ck,L,ct,V,cq,ci,O,cg⟩,id,xj,qty,xk,xi⟩).g.size ≤ maxLen):=ez hg
 have aQ:=H (h.eqn Q)
 generalize fstM g.nx g.l ⟨7,⟨ck,L,ct,V,cq,ci,O,cg⟩,id,xj,qty,xk,xi⟩ = fm at qf ⊢
 generalize bA ⟨7,⟨ck,L,ct,V,cq,ci,O,cg⟩,id,xj,qty,xk,xi⟩ = c at uy qf ow
 unfold evV at uy
 simp only at uy
 obtain ⟨xC,HX⟩:=gw w (yw 7 ck L ct V cq ci O cg id xj qty xk xi) 52
 have HS:Hid ((w.alloc (A (yw 7 ck L ct V cq ci O cg id xj qty xk xi).toArray 52)).heap.size = w.heap.size + 1):=by show _ = _; simp
 have HM:=H (zx h xC)
 have HB:=H xC
 clear h xC hi Q hg
 go_enter Tryz.func67,Tryz.ntmps67
 refine gv fun hR HK=>?_
 go_wp2_with fail
 refine U HK _ _ ?_
 clear HK
 generalize (w.alloc (A (yw 7 ck L ct V cq ci O cg id xj qty xk xi).toArray 52)) = W1 at HS HX HM HB ⊢
 obtain ⟨e0,e1,e2,e3,e4,e5,e6,e7,e8,e9,uR,uA,vV,uT⟩:=yz (U HX)
 go_wp2_with fail
 refine (U qg W1).mono ?_
 rintro e w1 ⟨rfl,qE⟩
 rw [qE]
 clear qE
 go_wp2_with fail
 refine (U uy W1).mono ?_
 rintro e w3 ⟨rfl,xQ⟩
 have hz:=U HS
 obtain ⟨dk,ds,dt,dl,dq,di,dp,dg⟩:=c
 unfold cmV
 simp only
 have xy:=gp w3 (A (yy dk ds dt dl dq di dp dg).toArray 50)
 have uO:=xQ.trans (xy.mono xQ.size)
 have xG:=H (zf (U HX) uO (by omega))
 have qk:=H (zx (U HM) uO)
 have xH:=H (gu (U HB) uO)
 have vL:=H (zq w3 (yy dk ds dt dl dq di dp dg) 50)
 have oV:w.heap.size < (w3.alloc (A (yy dk ds dt dl dq di dp dg).toArray 50)).heap.size:=by have:=xQ.size; simp; omega
 clear xQ xy uO hz HX HM HB HS e0 e1 e2 e3 e4 e5 e6 e7 e8 e9 uR uA vV uT
 go_wp2_with fail
 generalize (w3.alloc (A (yy dk ds dt dl dq di dp dg).toArray 50)) = hj at xG qk xH vL oV ⊢
 have xV:Hid (Bx hj.drew w.heap.size (yw 7 ck L ct V cq ci O cg id xj qty xk xi)):=zK (U xG)
 have vS:Hid (MS cp B hj.drew vl vd va g t kd n0 dy l0):=zx (U qk) ⟨rfl,rfl,rfl,Nat.le_refl _,fun _ _=>rfl⟩
 have vu:Hid (yp w hj.drew):=⟨(U xH).os,(U xH).tape,(U xH).output,(U xH).size,(U xH).block⟩
 have vD:Hid (Bx hj.drew w3.heap.size (yy dk ds dt dl dq di dp dg)):=zK (U vL)
 clear xG qk xH vL
 obtain ⟨d0,d1,d2,d3,d4,d5,d6,d7⟩:=yA (U vD)
 have c11:=R (U vS).box 11 rfl
 have c12:=R (U vS).box 12 rfl
 have vv:Hid (Calls Tryz.prog 106 #[.agg #[I n0,va],.agg (yy dk ds dt dl dq di dp dg).toArray] hj.drew fun e w'=>e = .returned (I (refR g.nx g.l ⟨dk,ds,dt,dl,dq,di,dp,dg⟩))∧Below hj.drew.heap.size hj.drew w'):=by
  have N:=(U vS).ahd
  rw [(U aQ).2] at N
  have:=eK g.nx va g.l ⟨dk,ds,dt,dl,dq,di,dp,dg⟩ hj.drew N (U vS).sla (U qR) (U HSI) (U ow)
  rw [ref_eq] at this
  rw [(U aQ).1]
  exact this
 refine zF 5 (by kernel_rfl) (by kernel_rfl) ?_
 simp only [yU,List.take_zero,yV,List.drop_zero]
 repeat still_step
 refine wpStill_nil ?_
 clear d0 d1 d2 d3 d4 d5 d6 d7 c11 c12
 go_wp2_with fail
 refine (U vv).mono ?_
 rintro e w5 ⟨rfl,ui⟩
 have uX:=H (zf (U xV) ui oV)
 have vB:=H (zx (U vS) ui)
 have uk:=H (gu (U vu) ui)
 clear ui vv xV vS vu vD
 generalize refR g.nx g.l ⟨dk,ds,dt,dl,dq,di,dp,dg⟩ = rr at qf ⊢
 have e0:=R (U uX) 0 rfl
 have e9:=R (U uX) 9 rfl
 have uA:=R (U uX) 11 rfl
 have uT:=R (U uX) 13 rfl
 by_cases h0:rr = 0
 case neg =>
  have b0:(rr != 0) = true:=by simpa using h0
  have HQ:Hid (fm = 5):=by show _ = _; rw [U qf,if_neg h0]
  clear h0
  go_wp2_with fail
  go_ret
  exact ⟨by rw [U HQ]; rfl,U uk⟩
 have b0:(rr != 0) = false:=by simpa using h0
 have vG:=H (U qf)
 rw [if_pos h0] at vG
 clear h0 qf
 go_wp2_with fail
 go_ret
 exact ⟨by rw [U vG]; rfl,U uk⟩
theorem first_1 {cp B:Nat} {vl vd va:Value} {g:Gr} {t:Od} {kd n0:Int} {dy l0:List Od} (ck L ct V cq ci:Int) (O:Nat) (cg:ByteArray) (id xj qty xk xi:Int) (w:World) (h:MS cp B w vl vd va g t kd n0 dy l0) (hi:GI g) (Q:g.bg = 0) (hg:cg.size ≤ maxLen):Calls Tryz.prog 67 #[J cp 0,.agg (yw 1 ck L ct V cq ci O cg id xj qty xk xi).toArray] w fun x w'=>x = .returned (I (fstM g.nx g.l ⟨1,⟨ck,L,ct,V,cq,ci,O,cg⟩,id,xj,qty,xk,xi⟩))∧yp w w':=by
 have hsf:=sfl
 have qg:=H (fun W=>dV 1 W (by decide))
 have uy:=H (fun W=>eI ⟨1,⟨ck,L,ct,V,cq,ci,O,cg⟩,id,xj,qty,xk,xi⟩ W (by show (1:Int) ≤ 1∧(1:Int) ≤ 9; decide))
 have qR:=H (hi.good (.inl (by omega)))
 have HSI:=H (hi.start Q).2.2.1
 have xz:=hi.len
 have qf:Hid (fstM g.nx g.l ⟨1,⟨ck,L,ct,V,cq,ci,O,cg⟩,id,xj,qty,xk,xi⟩ = if refR g.nx g.l (bA ⟨1,⟨ck,L,ct,V,cq,ci,O,cg⟩,id,xj,qty,xk,xi⟩) = 0 then (if id = g.nx then 0 else 6) else 5):=by show _ = _; simp [fstM,zQ]
 have ow:Hid ((bA ⟨1,⟨ck,L,ct,V,cq,ci,O,cg⟩,id,xj,qty,xk,xi⟩).g.size ≤ maxLen):=ez hg
 have aQ:=H (h.eqn Q)
 generalize fstM g.nx g.l ⟨1,⟨ck,L,ct,V,cq,ci,O,cg⟩,id,xj,qty,xk,xi⟩ = fm at qf ⊢
 generalize bA ⟨1,⟨ck,L,ct,V,cq,ci,O,cg⟩,id,xj,qty,xk,xi⟩ = c at uy qf ow
 unfold evV at uy
 simp only at uy
 obtain ⟨xC,HX⟩:=gw w (yw 1 ck L ct V cq ci O cg id xj qty xk xi) 52
 have HS:Hid ((w.alloc (A (yw 1 ck L ct V cq ci O cg id xj qty xk xi).toArray 52)).heap.size = w.heap.size + 1):=by show _ = _; simp
 have HM:=H (zx h xC)
 have HB:=H xC
 clear h xC hi Q hg
 go_enter Tryz.func67,Tryz.ntmps67
 refine gv fun hR HK=>?_
 go_wp2_with fail
 refine U HK _ _ ?_
 clear HK
 generalize (w.alloc (A (yw 1 ck L ct V cq ci O cg id xj qty xk xi).toArray 52)) = W1 at HS HX HM HB ⊢
 obtain ⟨e0,e1,e2,e3,e4,e5,e6,e7,e8,e9,uR,uA,vV,uT⟩:=yz (U HX)
 go_wp2_with fail
 refine (U qg W1).mono ?_
 rintro e w1 ⟨rfl,qE⟩
 rw [qE]
 clear qE
 go_wp2_with fail
 refine (U uy W1).mono ?_
 rintro e w3 ⟨rfl,xQ⟩
 have hz:=U HS
 obtain ⟨dk,ds,dt,dl,dq,di,dp,dg⟩:=c
 unfold cmV
 simp only
 have xy:=gp w3 (A (yy dk ds dt dl dq di dp dg).toArray 50)
 have uO:=xQ.trans (xy.mono xQ.size)
 have xG:=H (zf (U HX) uO (by omega))
 have qk:=H (zx (U HM) uO)
 have xH:=H (gu (U HB) uO)
 have vL:=H (zq w3 (yy dk ds dt dl dq di dp dg) 50)
 have oV:w.heap.size < (w3.alloc (A (yy dk ds dt dl dq di dp dg).toArray 50)).heap.size:=by have:=xQ.size; simp; omega
 clear xQ xy uO hz HX HM HB HS e0 e1 e2 e3 e4 e5 e6 e7 e8 e9 uR uA vV uT
 go_wp2_with fail
 generalize (w3.alloc (A (yy dk ds dt dl dq di dp dg).toArray 50)) = hj at xG qk xH vL oV ⊢
 have xV:Hid (Bx hj.drew w.heap.size (yw 1 ck L ct V cq ci O cg id xj qty xk xi)):=zK (U xG)
 have vS:Hid (MS cp B hj.drew vl vd va g t kd n0 dy l0):=zx (U qk) ⟨rfl,rfl,rfl,Nat.le_refl _,fun _ _=>rfl⟩
 have vu:Hid (yp w hj.drew):=⟨(U xH).os,(U xH).tape,(U xH).output,(U xH).size,(U xH).block⟩
 have vD:Hid (Bx hj.drew w3.heap.size (yy dk ds dt dl dq di dp dg)):=zK (U vL)
 clear xG qk xH vL
 obtain ⟨d0,d1,d2,d3,d4,d5,d6,d7⟩:=yA (U vD)
 have c11:=R (U vS).box 11 rfl
 have c12:=R (U vS).box 12 rfl
 have vv:Hid (Calls Tryz.prog 106 #[.agg #[I n0,va],.agg (yy dk ds dt dl dq di dp dg).toArray] hj.drew fun e w'=>e = .returned (I (refR g.nx g.l ⟨dk,ds,dt,dl,dq,di,dp,dg⟩))∧Below hj.drew.heap.size hj.drew w'):=by
  have N:=(U vS).ahd
  rw [(U aQ).2] at N
  have:=eK g.nx va g.l ⟨dk,ds,dt,dl,dq,di,dp,dg⟩ hj.drew N (U vS).sla (U qR) (U HSI) (U ow)
  rw [ref_eq] at this
  rw [(U aQ).1]
  exact this
 refine zF 5 (by kernel_rfl) (by kernel_rfl) ?_
 simp only [yU,List.take_zero,yV,List.drop_zero]
 repeat still_step
 refine wpStill_nil ?_
 clear d0 d1 d2 d3 d4 d5 d6 d7 c11 c12
 go_wp2_with fail
 refine (U vv).mono ?_
 rintro e w5 ⟨rfl,ui⟩
 have uX:=H (zf (U xV) ui oV)
 have vB:=H (zx (U vS) ui)
 have uk:=H (gu (U vu) ui)
 clear ui vv xV vS vu vD
 generalize refR g.nx g.l ⟨dk,ds,dt,dl,dq,di,dp,dg⟩ = rr at qf ⊢
 have e0:=R (U uX) 0 rfl
 have e9:=R (U uX) 9 rfl
 have uA:=R (U uX) 11 rfl
 have uT:=R (U uX) 13 rfl
 by_cases h0:rr = 0
 case neg =>
  have b0:(rr != 0) = true:=by simpa using h0
  have HQ:Hid (fm = 5):=by show _ = _; rw [U qf,if_neg h0]
  clear h0
  go_wp2_with fail
  go_ret
  exact ⟨by rw [U HQ]; rfl,U uk⟩
 have b0:(rr != 0) = false:=by simpa using h0
 have vG:=H (U qf)
 rw [if_pos h0] at vG
 clear h0 qf
 have c0:=R (U vB).box 0 rfl
 by_cases N:id = g.nx
 ·have b1:(id != g.nx) = false:=by simpa using N
  rw [if_pos N] at vG
  clear N
  go_wp2_with fail
  go_quiet (fail)
  go_wp2_with fail
  go_ret
  exact ⟨by rw [U vG]; rfl,zX (U uk) _⟩
 ·have b1:(id != g.nx) = true:=by simpa using N
  rw [if_neg N] at vG
  clear N
  go_wp2_with fail
  go_quiet (fail)
  go_wp2_with fail
  go_ret
  exact ⟨by rw [U vG]; rfl,zX (U uk) _⟩
end Go.Proofs.YtnphbkgfjanmgaaGreatDoor
