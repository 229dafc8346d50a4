/-
  The rule that a later event of a group breaks, by the model: proved by walking the method.
-/
import Derived.Test.YtnphbkgfjanmgaaGreatDoorBj34
import Derived.Lib.QuietBelow
set_option linter.unusedVariables false
set_option maxHeartbeats 6400000
set_option maxRecDepth 100000
namespace Go.Proofs.YtnphbkgfjanmgaaGreatDoor
open Go.RowKit
theorem dj (k:Int) (w:World) (hk:1 ≤ k∧k ≤ 9):Calls Tryz.prog 104 #[I k] w fun e w'=>e = .returned (.bool (zO k))∧w' = w:=by
 rcases (show k = 1 ∨ k = 2 ∨ k = 3 ∨ k = 4 ∨ k = 5 ∨ k = 6 ∨ k = 7 ∨ k = 8 ∨ k = 9 by omega) with rfl | rfl | rfl | rfl | rfl | rfl | rfl | rfl | rfl
 all_goals
  clear hk
  go_enter Tryz.func104,Tryz.ntmps104
  go_wp2_with fail
  go_ret
  exact ⟨rfl,rfl⟩
theorem later_any {hj B:Nat} {vl vd va:Value} {g:Gr} {t:Od} {kd n0:Int} {dy l0:List Od} (e:Ev) (w:World) (h:MS hj B w vl vd va g t kd n0 dy l0) (hi:GI g) (hm:MR g t kd dy) (hk:1 ≤ e.kind∧e.kind ≤ 9):Calls Tryz.prog 66 #[J hj 0,evV e] w fun x w'=>x = .returned (I (latM (dueG g) e))∧yn w w':=by
 have hsf:=sfl
 have HDU:=M (fun W (hW:MS hj B W vl vd va g t kd n0 dy l0)=>mdue_any W hW hi hm)
 have vZ:=M (fun W=>dj e.kind W hk)
 generalize dueG g = d at HDU ⊢
 have jL:Hid (latM d e = if zO e.kind = true then 3 else if d.kind = 0 then 8 else if d.kind = 9 ∨ e.kind = 9 then (if ((e.kind == d.kind) && ((e.id == d.id) && (e.qty == d.qty))) = true then 0 else 14) else if d.kind ≠ 3 then (if e.kind = 3 then 9 else if ((e.kind == d.kind) && ((e.id == d.id) && (e.qty == d.qty))) = true then 0 else 13) else if e.kind ≠ 3 then 13 else if e.id ≠ d.id then 9 else if e.other ≠ d.other then 10 else if e.price ≠ d.price then 11 else if e.qty ≠ d.qty then 12 else 0):=rfl
 generalize latM d e = lm at jL ⊢
 generalize zO e.kind = sb at vZ jL
 obtain ⟨xm,⟨ck,L,ct,F,cq,ci,X,cg⟩,id,xi,qty,xj,xh⟩:=e
 obtain ⟨dk,di,dt,dq,dp⟩:=d
 unfold duV at HDU
 unfold evV
 simp only at HDU vZ jL ⊢
 obtain ⟨xz,HX⟩:=fJ w (yv xm ck L ct F cq ci X cg id xi qty xj xh) 52
 have HS:Hid ((w.alloc (A (yv xm ck L ct F cq ci X cg id xi qty xj xh).toArray 52)).heap.size = w.heap.size + 1):=by show _ = _; simp
 have HM:=M (zv h xz)
 have HB:=M xz
 clear h xz hi hm hk
 go_enter Tryz.func66,Tryz.ntmps66
 refine fI fun hR HK=>?_
 go_wp2_with fail
 refine H HK _ _ ?_
 clear HK
 generalize (w.alloc (A (yv xm ck L ct F cq ci X cg id xi qty xj xh).toArray 52)) = W1 at HS HX HM HB ⊢
 go_wp2_with fail
 refine (H HDU W1 (H HM)).mono ?_
 rintro e w2 ⟨rfl,xJ⟩
 obtain ⟨xw,vJ⟩:=fJ w2 [I dk,I di,I dt,I dq,I dp] 29
 have hb24:=xJ.trans (xw.mono xJ.size)
 have xE:=M (zg (H HX) hb24 (by have:=H HS; omega))
 have xG:=M (fH (H HB) hb24)
 clear xJ xw hb24 HX HM HB HS HDU
 have e0:=R (H xE) 0 rfl
 go_wp2_with fail
 generalize (w2.alloc (A #[I dk,I di,I dt,I dq,I dp] 29)) = cp at xE xG vJ e0 ⊢
 refine (H vZ cp).mono ?_
 rintro e X2 ⟨rfl,jv⟩
 rw [← jv] at xE xG vJ e0
 clear jv vZ
 have e9:=R (H xE) 9 rfl
 have uy:=R (H xE) 10 rfl
 have uk:=R (H xE) 11 rfl
 have uW:=R (H xE) 12 rfl
 have v0:=R (H vJ) 0 rfl
 have v1:=R (H vJ) 1 rfl
 have v2:=R (H vJ) 2 rfl
 have v3:=R (H vJ) 3 rfl
 have v4:=R (H vJ) 4 rfl
 cases sb
 ·by_cases hd0:dk = 0
  ·have f_hd0:(dk == 0) = true:=by simpa using hd0
   have HQ:Hid (lm = 8):=by show _ = _; rw [H jL]; grind
   clear hd0
   go_wp2_with fail
   go_ret
   exact ⟨by rw [H HQ]; rfl,H xG⟩
  ·have f_hd0:(dk == 0) = false:=by simpa using hd0
   by_cases hd9:dk = 9
   ·have f_hd9:(dk == 9) = true:=by simpa using hd9
    by_cases hkd:xm = dk
    ·have oW:(xm != dk) = false:=by simpa using hkd
     by_cases uj:id = di
     ·have jZ:(id != di) = false:=by simpa using uj
      by_cases hqd:qty = dq
      ·have ka:(qty != dq) = false:=by simpa using hqd
       have HQ:Hid (lm = 0):=by show _ = _; rw [H jL]; grind
       clear hd0 hd9 hkd uj hqd
       go_wp2_with fail
       go_ret
       exact ⟨by rw [H HQ]; rfl,H xG⟩
      ·have ka:(qty != dq) = true:=by simpa using hqd
       have HQ:Hid (lm = 14):=by show _ = _; rw [H jL]; grind
       clear hd0 hd9 hkd uj hqd
       go_wp2_with fail
       go_ret
       exact ⟨by rw [H HQ]; rfl,H xG⟩
     ·have jZ:(id != di) = true:=by simpa using uj
      have HQ:Hid (lm = 14):=by show _ = _; rw [H jL]; grind
      clear hd0 hd9 hkd uj
      go_wp2_with fail
      go_ret
      exact ⟨by rw [H HQ]; rfl,H xG⟩
    ·have oW:(xm != dk) = true:=by simpa using hkd
     have HQ:Hid (lm = 14):=by show _ = _; rw [H jL]; grind
     clear hd0 hd9 hkd
     go_wp2_with fail
     go_ret
     exact ⟨by rw [H HQ]; rfl,H xG⟩
   ·have f_hd9:(dk == 9) = false:=by simpa using hd9
    by_cases jG:xm = 9
    ·have f_hk9:(xm == 9) = true:=by simpa using jG
     by_cases hkd:xm = dk
     ·have oW:(xm != dk) = false:=by simpa using hkd
      by_cases uj:id = di
      ·have jZ:(id != di) = false:=by simpa using uj
       by_cases hqd:qty = dq
       ·have ka:(qty != dq) = false:=by simpa using hqd
        have HQ:Hid (lm = 0):=by show _ = _; rw [H jL]; grind
        clear hd0 hd9 jG hkd uj hqd
        go_wp2_with fail
        go_ret
        exact ⟨by rw [H HQ]; rfl,H xG⟩
       ·have ka:(qty != dq) = true:=by simpa using hqd
        have HQ:Hid (lm = 14):=by show _ = _; rw [H jL]; grind
        clear hd0 hd9 jG hkd uj hqd
        go_wp2_with fail
        go_ret
        exact ⟨by rw [H HQ]; rfl,H xG⟩
      ·have jZ:(id != di) = true:=by simpa using uj
       have HQ:Hid (lm = 14):=by show _ = _; rw [H jL]; grind
       clear hd0 hd9 jG hkd uj
       go_wp2_with fail
       go_ret
       exact ⟨by rw [H HQ]; rfl,H xG⟩
     ·have oW:(xm != dk) = true:=by simpa using hkd
      have HQ:Hid (lm = 14):=by show _ = _; rw [H jL]; grind
      clear hd0 hd9 jG hkd
      go_wp2_with fail
      go_ret
      exact ⟨by rw [H HQ]; rfl,H xG⟩
    ·have f_hk9:(xm == 9) = false:=by simpa using jG
     by_cases pU:dk = 3
     ·have g_hd3:(dk != 3) = false:=by simpa using pU
      by_cases hk3:xm = 3
      ·have f_hk3:(xm == 3) = true:=by simpa using hk3
       have g_hk3:(xm != 3) = false:=by simpa using hk3
       by_cases uj:id = di
       ·have jZ:(id != di) = false:=by simpa using uj
        by_cases pf:xi = dt
        ·have g_hot:(xi != dt) = false:=by simpa using pf
         by_cases hpr:xj = dp
         ·have g_hpr:(xj != dp) = false:=by simpa using hpr
          by_cases hqd:qty = dq
          ·have ka:(qty != dq) = false:=by simpa using hqd
           have HQ:Hid (lm = 0):=by show _ = _; rw [H jL]; grind
           clear hd0 hd9 jG pU hk3 uj pf hpr hqd
           go_wp2_with fail
           go_ret
           exact ⟨by rw [H HQ]; rfl,H xG⟩
          ·have ka:(qty != dq) = true:=by simpa using hqd
           have HQ:Hid (lm = 12):=by show _ = _; rw [H jL]; grind
           clear hd0 hd9 jG pU hk3 uj pf hpr hqd
           go_wp2_with fail
           go_ret
           exact ⟨by rw [H HQ]; rfl,H xG⟩
         ·have g_hpr:(xj != dp) = true:=by simpa using hpr
          have HQ:Hid (lm = 11):=by show _ = _; rw [H jL]; grind
          clear hd0 hd9 jG pU hk3 uj pf hpr
          go_wp2_with fail
          go_ret
          exact ⟨by rw [H HQ]; rfl,H xG⟩
        ·have g_hot:(xi != dt) = true:=by simpa using pf
         have HQ:Hid (lm = 10):=by show _ = _; rw [H jL]; grind
         clear hd0 hd9 jG pU hk3 uj pf
         go_wp2_with fail
         go_ret
         exact ⟨by rw [H HQ]; rfl,H xG⟩
       ·have jZ:(id != di) = true:=by simpa using uj
        have HQ:Hid (lm = 9):=by show _ = _; rw [H jL]; grind
        clear hd0 hd9 jG pU hk3 uj
        go_wp2_with fail
        go_ret
        exact ⟨by rw [H HQ]; rfl,H xG⟩
      ·have f_hk3:(xm == 3) = false:=by simpa using hk3
       have g_hk3:(xm != 3) = true:=by simpa using hk3
       have HQ:Hid (lm = 13):=by show _ = _; rw [H jL]; grind
       clear hd0 hd9 jG pU hk3
       go_wp2_with fail
       go_ret
       exact ⟨by rw [H HQ]; rfl,H xG⟩
     ·have g_hd3:(dk != 3) = true:=by simpa using pU
      by_cases hk3:xm = 3
      ·have f_hk3:(xm == 3) = true:=by simpa using hk3
       have g_hk3:(xm != 3) = false:=by simpa using hk3
       have HQ:Hid (lm = 9):=by show _ = _; rw [H jL]; grind
       clear hd0 hd9 jG pU hk3
       go_wp2_with fail
       go_ret
       exact ⟨by rw [H HQ]; rfl,H xG⟩
      ·have f_hk3:(xm == 3) = false:=by simpa using hk3
       have g_hk3:(xm != 3) = true:=by simpa using hk3
       by_cases hkd:xm = dk
       ·have oW:(xm != dk) = false:=by simpa using hkd
        by_cases uj:id = di
        ·have jZ:(id != di) = false:=by simpa using uj
         by_cases hqd:qty = dq
         ·have ka:(qty != dq) = false:=by simpa using hqd
          have HQ:Hid (lm = 0):=by show _ = _; rw [H jL]; grind
          clear hd0 hd9 jG pU hk3 hkd uj hqd
          go_wp2_with fail
          go_ret
          exact ⟨by rw [H HQ]; rfl,H xG⟩
         ·have ka:(qty != dq) = true:=by simpa using hqd
          have HQ:Hid (lm = 13):=by show _ = _; rw [H jL]; grind
          clear hd0 hd9 jG pU hk3 hkd uj hqd
          go_wp2_with fail
          go_ret
          exact ⟨by rw [H HQ]; rfl,H xG⟩
        ·have jZ:(id != di) = true:=by simpa using uj
         have HQ:Hid (lm = 13):=by show _ = _; rw [H jL]; grind
         clear hd0 hd9 jG pU hk3 hkd uj
         go_wp2_with fail
         go_ret
         exact ⟨by rw [H HQ]; rfl,H xG⟩
       ·have oW:(xm != dk) = true:=by simpa using hkd
        have HQ:Hid (lm = 13):=by show _ = _; rw [H jL]; grind
        clear hd0 hd9 jG pU hk3 hkd
        go_wp2_with fail
        go_ret
        exact ⟨by rw [H HQ]; rfl,H xG⟩
 ·have HQ:Hid (lm = 3):=by show _ = _; rw [H jL]; grind
  go_wp2_with fail
  go_ret
  exact ⟨by rw [H HQ]; rfl,H xG⟩
theorem dZ (e:Ev) (w:World) (hk:1 ≤ e.kind∧e.kind ≤ 9):Calls Tryz.prog 105 #[evV e] w fun r w'=>r = .returned (.tuple #[cmV (aU e),.bool (zO e.kind)])∧yn w w':=by
 have hsf:=sfl
 obtain ⟨xm,⟨ck,L,ct,F,cq,ci,X,cg⟩,id,xi,qty,xj,xh⟩:=e
 simp only at hk
 unfold evV aU cmV zCm zO
 simp only
 rcases (show xm = 1 ∨ xm = 2 ∨ xm = 3 ∨ xm = 4 ∨ xm = 5 ∨ xm = 6 ∨ xm = 7 ∨ xm = 8 ∨ xm = 9 by omega) with rfl | rfl | rfl | rfl | rfl | rfl | rfl | rfl | rfl
 all_goals
  clear hk
  simp
  go_enter Tryz.func105,Tryz.ntmps105
  go_wp2_with fail
  go_returns
  exact ⟨rfl,by go_grown⟩
def DYc (vs:List (Option Value)) (n:Nat) (p:Prop) (xn:World) (j:Nat) (v:Value):Prop:=(j = 6→∃ a c,v = .slice a n c)∧∀ u,vs[j]? = some (some u)→v = u
theorem dyc_mono {vs:List (Option Value)} {n:Nat}:∀ p W W' j v,yn W W'→DYc vs n p W j v→DYc vs n p W' j v:=fun _ _ _ _ _ _ h=>h
theorem iRow_slice {W:World} {B:Nat} {v:Value} {l:List Nat} (h:IRow W B v l):∃ a c,v = .slice a l.length c:=by
 rcases h.2 with ⟨e,e2⟩ | ⟨g,cap,xF,e,_⟩
 ·exact ⟨none,0,by rw [e,e2]⟩
 ·exact ⟨_,_,e⟩
theorem eK (k ck L ct F cq ci:Int) (X:Nat) (cg:ByteArray) (id xi qty xj xh:Int) (hj:Nat) (g:Gr) (w:World) (hk:1 ≤ k∧k ≤ 9) (hs:zO k = false):Calls Tryz.prog 67 #[J hj 0,.agg (yv k ck L ct F cq ci X cg id xi qty xj xh).toArray] w fun x w'=>x = .returned (I (fstM g.nx g.l ⟨k,⟨ck,L,ct,F,cq,ci,X,cg⟩,id,xi,qty,xj,xh⟩))∧yn w w':=by
 have hsf:=sfl
 have vZ:=M (fun W=>dj k W hk)
 rw [hs] at vZ
 have vY:Hid (fstM g.nx g.l ⟨k,⟨ck,L,ct,F,cq,ci,X,cg⟩,id,xi,qty,xj,xh⟩ = 3):=by show _ = _; simp [fstM,hs]
 generalize fstM g.nx g.l ⟨k,⟨ck,L,ct,F,cq,ci,X,cg⟩,id,xi,qty,xj,xh⟩ = fm at vY ⊢
 have HX:=M (zq w (yv k ck L ct F cq ci X cg id xi qty xj xh) 52)
 have HB:Hid (yn w (w.alloc (A (yv k ck L ct F cq ci X cg id xi qty xj xh).toArray 52))):=fE _ _
 clear hk hs
 go_enter Tryz.func67,Tryz.ntmps67
 refine fI fun hR HK=>?_
 go_wp2_with fail
 refine H HK _ _ ?_
 clear HK
 generalize (w.alloc (A (yv k ck L ct F cq ci X cg id xi qty xj xh).toArray 52)) = W1 at HX HB ⊢
 have e0:=R (H HX) 0 rfl
 go_wp2_with fail
 refine (H vZ W1).mono ?_
 rintro e w1 ⟨rfl,qB⟩
 rw [qB]
 clear qB
 go_wp2_with fail
 go_ret
 exact ⟨by rw [H vY]; rfl,H HB⟩
theorem first_2 {hj B:Nat} {vl vd va:Value} {g:Gr} {t:Od} {kd n0:Int} {dy l0:List Od} (ck L ct F cq ci:Int) (X:Nat) (cg:ByteArray) (id xi qty xj xh:Int) (w:World) (h:MS hj B w vl vd va g t kd n0 dy l0) (hi:GI g) (Y:g.bg = 0) (hg:cg.size ≤ maxLen):Calls Tryz.prog 67 #[J hj 0,.agg (yv 2 ck L ct F cq ci X cg id xi qty xj xh).toArray] w fun x w'=>x = .returned (I (fstM g.nx g.l ⟨2,⟨ck,L,ct,F,cq,ci,X,cg⟩,id,xi,qty,xj,xh⟩))∧yn w w':=by
 have hsf:=sfl
 have vZ:=M (fun W=>dj 2 W (by decide))
 have uw:=M (fun W=>dZ ⟨2,⟨ck,L,ct,F,cq,ci,X,cg⟩,id,xi,qty,xj,xh⟩ W (by show (1:Int) ≤ 2∧(2:Int) ≤ 9; decide))
 have qL:=M (hi.good (.inl (by omega)))
 have HSI:=M (hi.start Y).2.2.1
 have xA:=hi.len
 have vY:Hid (fstM g.nx g.l ⟨2,⟨ck,L,ct,F,cq,ci,X,cg⟩,id,xi,qty,xj,xh⟩ = if refR g.nx g.l (aU ⟨2,⟨ck,L,ct,F,cq,ci,X,cg⟩,id,xi,qty,xj,xh⟩) = 0 ∨ ¬ refR g.nx g.l (aU ⟨2,⟨ck,L,ct,F,cq,ci,X,cg⟩,id,xi,qty,xj,xh⟩) = xh then 4 else 0):=by show _ = _; simp [fstM,zO]
 have oa:Hid ((aU ⟨2,⟨ck,L,ct,F,cq,ci,X,cg⟩,id,xi,qty,xj,xh⟩).g.size ≤ maxLen):=dQ hg
 have ax:=M (h.eqn Y)
 generalize fstM g.nx g.l ⟨2,⟨ck,L,ct,F,cq,ci,X,cg⟩,id,xi,qty,xj,xh⟩ = fm at vY ⊢
 generalize aU ⟨2,⟨ck,L,ct,F,cq,ci,X,cg⟩,id,xi,qty,xj,xh⟩ = c at uw vY oa
 unfold evV at uw
 simp only at uw
 obtain ⟨xz,HX⟩:=fJ w (yv 2 ck L ct F cq ci X cg id xi qty xj xh) 52
 have HS:Hid ((w.alloc (A (yv 2 ck L ct F cq ci X cg id xi qty xj xh).toArray 52)).heap.size = w.heap.size + 1):=by show _ = _; simp
 have HM:=M (zv h xz)
 have HB:=M xz
 clear h xz hi Y hg
 go_enter Tryz.func67,Tryz.ntmps67
 refine fI fun hR HK=>?_
 go_wp2_with fail
 refine H HK _ _ ?_
 clear HK
 generalize (w.alloc (A (yv 2 ck L ct F cq ci X cg id xi qty xj xh).toArray 52)) = W1 at HS HX HM HB ⊢
 obtain ⟨e0,e1,e2,e3,e4,e5,e6,e7,e8,e9,uy,uk,uW,uA⟩:=yy (H HX)
 go_wp2_with fail
 refine (H vZ W1).mono ?_
 rintro e w1 ⟨rfl,qB⟩
 rw [qB]
 clear qB
 go_wp2_with fail
 refine (H uw W1).mono ?_
 rintro e w3 ⟨rfl,xM⟩
 have hz:=H HS
 obtain ⟨dk,ds,dt,dl,dq,di,dp,dg⟩:=c
 unfold cmV
 simp only
 have xw:=fE w3 (A (yx dk ds dt dl dq di dp dg).toArray 50)
 have uP:=xM.trans (xw.mono xM.size)
 have xE:=M (zg (H HX) uP (by omega))
 have qd:=M (zv (H HM) uP)
 have xG:=M (fH (H HB) uP)
 have vJ:=M (zq w3 (yx dk ds dt dl dq di dp dg) 50)
 have oJ:w.heap.size < (w3.alloc (A (yx dk ds dt dl dq di dp dg).toArray 50)).heap.size:=by have:=xM.size; simp; omega
 clear xM xw uP hz HX HM HB HS e0 e1 e2 e3 e4 e5 e6 e7 e8 e9 uy uk uW uA
 go_wp2_with fail
 generalize (w3.alloc (A (yx dk ds dt dl dq di dp dg).toArray 50)) = cp at xE qd xG vJ oJ ⊢
 have xX:Hid (Bx cp.drew w.heap.size (yv 2 ck L ct F cq ci X cg id xi qty xj xh)):=zJ (H xE)
 have vN:Hid (MS hj B cp.drew vl vd va g t kd n0 dy l0):=zv (H qd) ⟨rfl,rfl,rfl,Nat.le_refl _,fun _ _=>rfl⟩
 have vy:Hid (yn w cp.drew):=⟨(H xG).os,(H xG).tape,(H xG).output,(H xG).size,(H xG).block⟩
 have vB:Hid (Bx cp.drew w3.heap.size (yx dk ds dt dl dq di dp dg)):=zJ (H vJ)
 clear xE qd xG vJ
 obtain ⟨d0,d1,d2,d3,d4,d5,d6,d7⟩:=yz (H vB)
 have c11:=R (H vN).box 11 rfl
 have c12:=R (H vN).box 12 rfl
 have vk:Hid (Calls Tryz.prog 106 #[.agg #[I n0,va],.agg (yx dk ds dt dl dq di dp dg).toArray] cp.drew fun e w'=>e = .returned (I (refR g.nx g.l ⟨dk,ds,dt,dl,dq,di,dp,dg⟩))∧Below cp.drew.heap.size cp.drew w'):=by
  have Q:=(H vN).ahd
  rw [(H ax).2] at Q
  have:=ec g.nx va g.l ⟨dk,ds,dt,dl,dq,di,dp,dg⟩ cp.drew Q (H vN).sla (H qL) (H HSI) (H oa)
  rw [ref_eq] at this
  rw [(H ax).1]
  exact this
 refine zE 5 (by kernel_rfl) (by kernel_rfl) ?_
 simp only [yT,List.take_zero,yU,List.drop_zero]
 repeat still_step
 refine wpStill_nil ?_
 clear d0 d1 d2 d3 d4 d5 d6 d7 c11 c12
 go_wp2_with fail
 refine (H vk).mono ?_
 rintro e w5 ⟨rfl,uf⟩
 have uI:=M (zg (H xX) uf oJ)
 have vz:=M (zv (H vN) uf)
 have ug:=M (fH (H vy) uf)
 clear uf vk xX vN vy vB
 generalize refR g.nx g.l ⟨dk,ds,dt,dl,dq,di,dp,dg⟩ = rr at vY ⊢
 have e0:=R (H uI) 0 rfl
 have e9:=R (H uI) 9 rfl
 have uk:=R (H uI) 11 rfl
 have uA:=R (H uI) 13 rfl
 by_cases h0:rr = 0
 ·have b0:(rr == 0) = true:=by simpa using h0
  have HQ:Hid (fm = 4):=by show _ = _; rw [H vY]; simp [h0]
  clear h0
  go_wp2_with fail
  go_ret
  exact ⟨by rw [H HQ]; rfl,H ug⟩
 have b0:(rr == 0) = false:=by simpa using h0
 by_cases Q:rr = xh
 ·have b1:(rr != xh) = false:=by simpa using Q
  have HQ:Hid (fm = 0):=by show _ = _; rw [H vY,if_neg (fun h=>h.elim h0 (fun E=>E Q))]
  clear h0 Q
  go_wp2_with fail
  go_ret
  exact ⟨by rw [H HQ]; rfl,H ug⟩
 ·have b1:(rr != xh) = true:=by simpa using Q
  have HQ:Hid (fm = 4):=by show _ = _; rw [H vY,if_pos (.inr Q)]
  clear h0 Q
  go_wp2_with fail
  go_ret
  exact ⟨by rw [H HQ]; rfl,H ug⟩
theorem first_7 {hj B:Nat} {vl vd va:Value} {g:Gr} {t:Od} {kd n0:Int} {dy l0:List Od} (ck L ct F cq ci:Int) (X:Nat) (cg:ByteArray) (id xi qty xj xh:Int) (w:World) (h:MS hj B w vl vd va g t kd n0 dy l0) (hi:GI g) (Y:g.bg = 0) (hg:cg.size ≤ maxLen):Calls Tryz.prog 67 #[J hj 0,.agg (yv 7 ck L ct F cq ci X cg id xi qty xj xh).toArray] w fun x w'=>x = .returned (I (fstM g.nx g.l ⟨7,⟨ck,L,ct,F,cq,ci,X,cg⟩,id,xi,qty,xj,xh⟩))∧yn w w':=by
 have hsf:=sfl
 have vZ:=M (fun W=>dj 7 W (by decide))
 have uw:=M (fun W=>dZ ⟨7,⟨ck,L,ct,F,cq,ci,X,cg⟩,id,xi,qty,xj,xh⟩ W (by show (1:Int) ≤ 7∧(7:Int) ≤ 9; decide))
 have qL:=M (hi.good (.inl (by omega)))
 have HSI:=M (hi.start Y).2.2.1
 have xA:=hi.len
 have vY:Hid (fstM g.nx g.l ⟨7,⟨ck,L,ct,F,cq,ci,X,cg⟩,id,xi,qty,xj,xh⟩ = if refR g.nx g.l (aU ⟨7,⟨ck,L,ct,F,cq,ci,X,cg⟩,id,xi,qty,xj,xh⟩) = 0 then (0) else 5):=by show _ = _; simp [fstM,zO]
 have oa:Hid ((aU ⟨7,⟨ck,L,ct,F,cq,ci,X,cg⟩,id,xi,qty,xj,xh⟩).g.size ≤ maxLen):=dQ hg
 have ax:=M (h.eqn Y)
 generalize fstM g.nx g.l ⟨7,⟨ck,L,ct,F,cq,ci,X,cg⟩,id,xi,qty,xj,xh⟩ = fm at vY ⊢
 generalize aU ⟨7,⟨ck,L,ct,F,cq,ci,X,cg⟩,id,xi,qty,xj,xh⟩ = c at uw vY oa
 unfold evV at uw
 simp only at uw
 obtain ⟨xz,HX⟩:=fJ w (yv 7 ck L ct F cq ci X cg id xi qty xj xh) 52
 have HS:Hid ((w.alloc (A (yv 7 ck L ct F cq ci X cg id xi qty xj xh).toArray 52)).heap.size = w.heap.size + 1):=by show _ = _; simp
 have HM:=M (zv h xz)
 have HB:=M xz
 clear h xz hi Y hg
 go_enter Tryz.func67,Tryz.ntmps67
 refine fI fun hR HK=>?_
 go_wp2_with fail
 refine H HK _ _ ?_
 clear HK
 generalize (w.alloc (A (yv 7 ck L ct F cq ci X cg id xi qty xj xh).toArray 52)) = W1 at HS HX HM HB ⊢
 obtain ⟨e0,e1,e2,e3,e4,e5,e6,e7,e8,e9,uy,uk,uW,uA⟩:=yy (H HX)
 go_wp2_with fail
 refine (H vZ W1).mono ?_
 rintro e w1 ⟨rfl,qB⟩
 rw [qB]
 clear qB
 go_wp2_with fail
 refine (H uw W1).mono ?_
 rintro e w3 ⟨rfl,xM⟩
 have hz:=H HS
 obtain ⟨dk,ds,dt,dl,dq,di,dp,dg⟩:=c
 unfold cmV
 simp only
 have xw:=fE w3 (A (yx dk ds dt dl dq di dp dg).toArray 50)
 have uP:=xM.trans (xw.mono xM.size)
 have xE:=M (zg (H HX) uP (by omega))
 have qd:=M (zv (H HM) uP)
 have xG:=M (fH (H HB) uP)
 have vJ:=M (zq w3 (yx dk ds dt dl dq di dp dg) 50)
 have oJ:w.heap.size < (w3.alloc (A (yx dk ds dt dl dq di dp dg).toArray 50)).heap.size:=by have:=xM.size; simp; omega
 clear xM xw uP hz HX HM HB HS e0 e1 e2 e3 e4 e5 e6 e7 e8 e9 uy uk uW uA
 go_wp2_with fail
 generalize (w3.alloc (A (yx dk ds dt dl dq di dp dg).toArray 50)) = cp at xE qd xG vJ oJ ⊢
 have xX:Hid (Bx cp.drew w.heap.size (yv 7 ck L ct F cq ci X cg id xi qty xj xh)):=zJ (H xE)
 have vN:Hid (MS hj B cp.drew vl vd va g t kd n0 dy l0):=zv (H qd) ⟨rfl,rfl,rfl,Nat.le_refl _,fun _ _=>rfl⟩
 have vy:Hid (yn w cp.drew):=⟨(H xG).os,(H xG).tape,(H xG).output,(H xG).size,(H xG).block⟩
 have vB:Hid (Bx cp.drew w3.heap.size (yx dk ds dt dl dq di dp dg)):=zJ (H vJ)
 clear xE qd xG vJ
 obtain ⟨d0,d1,d2,d3,d4,d5,d6,d7⟩:=yz (H vB)
 have c11:=R (H vN).box 11 rfl
 have c12:=R (H vN).box 12 rfl
 have vk:Hid (Calls Tryz.prog 106 #[.agg #[I n0,va],.agg (yx dk ds dt dl dq di dp dg).toArray] cp.drew fun e w'=>e = .returned (I (refR g.nx g.l ⟨dk,ds,dt,dl,dq,di,dp,dg⟩))∧Below cp.drew.heap.size cp.drew w'):=by
  have Q:=(H vN).ahd
  rw [(H ax).2] at Q
  have:=ec g.nx va g.l ⟨dk,ds,dt,dl,dq,di,dp,dg⟩ cp.drew Q (H vN).sla (H qL) (H HSI) (H oa)
  rw [ref_eq] at this
  rw [(H ax).1]
  exact this
 refine zE 5 (by kernel_rfl) (by kernel_rfl) ?_
 simp only [yT,List.take_zero,yU,List.drop_zero]
 repeat still_step
 refine wpStill_nil ?_
 clear d0 d1 d2 d3 d4 d5 d6 d7 c11 c12
 go_wp2_with fail
 refine (H vk).mono ?_
 rintro e w5 ⟨rfl,uf⟩
 have uI:=M (zg (H xX) uf oJ)
 have vz:=M (zv (H vN) uf)
 have ug:=M (fH (H vy) uf)
 clear uf vk xX vN vy vB
 generalize refR g.nx g.l ⟨dk,ds,dt,dl,dq,di,dp,dg⟩ = rr at vY ⊢
 have e0:=R (H uI) 0 rfl
 have e9:=R (H uI) 9 rfl
 have uk:=R (H uI) 11 rfl
 have uA:=R (H uI) 13 rfl
 by_cases h0:rr = 0
 case neg =>
  have b0:(rr != 0) = true:=by simpa using h0
  have HQ:Hid (fm = 5):=by show _ = _; rw [H vY,if_neg h0]
  clear h0
  go_wp2_with fail
  go_ret
  exact ⟨by rw [H HQ]; rfl,H ug⟩
 have b0:(rr != 0) = false:=by simpa using h0
 have vC:=M (H vY)
 rw [if_pos h0] at vC
 clear h0 vY
 go_wp2_with fail
 go_ret
 exact ⟨by rw [H vC]; rfl,H ug⟩
theorem first_1 {hj B:Nat} {vl vd va:Value} {g:Gr} {t:Od} {kd n0:Int} {dy l0:List Od} (ck L ct F cq ci:Int) (X:Nat) (cg:ByteArray) (id xi qty xj xh:Int) (w:World) (h:MS hj B w vl vd va g t kd n0 dy l0) (hi:GI g) (Y:g.bg = 0) (hg:cg.size ≤ maxLen):Calls Tryz.prog 67 #[J hj 0,.agg (yv 1 ck L ct F cq ci X cg id xi qty xj xh).toArray] w fun x w'=>x = .returned (I (fstM g.nx g.l ⟨1,⟨ck,L,ct,F,cq,ci,X,cg⟩,id,xi,qty,xj,xh⟩))∧yn w w':=by
 have hsf:=sfl
 have vZ:=M (fun W=>dj 1 W (by decide))
 have uw:=M (fun W=>dZ ⟨1,⟨ck,L,ct,F,cq,ci,X,cg⟩,id,xi,qty,xj,xh⟩ W (by show (1:Int) ≤ 1∧(1:Int) ≤ 9; decide))
 have qL:=M (hi.good (.inl (by omega)))
 have HSI:=M (hi.start Y).2.2.1
 have xA:=hi.len
 have vY:Hid (fstM g.nx g.l ⟨1,⟨ck,L,ct,F,cq,ci,X,cg⟩,id,xi,qty,xj,xh⟩ = if refR g.nx g.l (aU ⟨1,⟨ck,L,ct,F,cq,ci,X,cg⟩,id,xi,qty,xj,xh⟩) = 0 then (if id = g.nx then 0 else 6) else 5):=by show _ = _; simp [fstM,zO]
 have oa:Hid ((aU ⟨1,⟨ck,L,ct,F,cq,ci,X,cg⟩,id,xi,qty,xj,xh⟩).g.size ≤ maxLen):=dQ hg
 have ax:=M (h.eqn Y)
 generalize fstM g.nx g.l ⟨1,⟨ck,L,ct,F,cq,ci,X,cg⟩,id,xi,qty,xj,xh⟩ = fm at vY ⊢
 generalize aU ⟨1,⟨ck,L,ct,F,cq,ci,X,cg⟩,id,xi,qty,xj,xh⟩ = c at uw vY oa
 unfold evV at uw
 simp only at uw
 obtain ⟨xz,HX⟩:=fJ w (yv 1 ck L ct F cq ci X cg id xi qty xj xh) 52
 have HS:Hid ((w.alloc (A (yv 1 ck L ct F cq ci X cg id xi qty xj xh).toArray 52)).heap.size = w.heap.size + 1):=by show _ = _; simp
 have HM:=M (zv h xz)
 have HB:=M xz
 clear h xz hi Y hg
 go_enter Tryz.func67,Tryz.ntmps67
 refine fI fun hR HK=>?_
 go_wp2_with fail
 refine H HK _ _ ?_
 clear HK
 generalize (w.alloc (A (yv 1 ck L ct F cq ci X cg id xi qty xj xh).toArray 52)) = W1 at HS HX HM HB ⊢
 obtain ⟨e0,e1,e2,e3,e4,e5,e6,e7,e8,e9,uy,uk,uW,uA⟩:=yy (H HX)
 go_wp2_with fail
 refine (H vZ W1).mono ?_
 rintro e w1 ⟨rfl,qB⟩
 rw [qB]
 clear qB
 go_wp2_with fail
 refine (H uw W1).mono ?_
 rintro e w3 ⟨rfl,xM⟩
 have hz:=H HS
 obtain ⟨dk,ds,dt,dl,dq,di,dp,dg⟩:=c
 unfold cmV
 simp only
 have xw:=fE w3 (A (yx dk ds dt dl dq di dp dg).toArray 50)
 have uP:=xM.trans (xw.mono xM.size)
 have xE:=M (zg (H HX) uP (by omega))
 have qd:=M (zv (H HM) uP)
 have xG:=M (fH (H HB) uP)
 have vJ:=M (zq w3 (yx dk ds dt dl dq di dp dg) 50)
 have oJ:w.heap.size < (w3.alloc (A (yx dk ds dt dl dq di dp dg).toArray 50)).heap.size:=by have:=xM.size; simp; omega
 clear xM xw uP hz HX HM HB HS e0 e1 e2 e3 e4 e5 e6 e7 e8 e9 uy uk uW uA
 go_wp2_with fail
 generalize (w3.alloc (A (yx dk ds dt dl dq di dp dg).toArray 50)) = cp at xE qd xG vJ oJ ⊢
 have xX:Hid (Bx cp.drew w.heap.size (yv 1 ck L ct F cq ci X cg id xi qty xj xh)):=zJ (H xE)
 have vN:Hid (MS hj B cp.drew vl vd va g t kd n0 dy l0):=zv (H qd) ⟨rfl,rfl,rfl,Nat.le_refl _,fun _ _=>rfl⟩
 have vy:Hid (yn w cp.drew):=⟨(H xG).os,(H xG).tape,(H xG).output,(H xG).size,(H xG).block⟩
 have vB:Hid (Bx cp.drew w3.heap.size (yx dk ds dt dl dq di dp dg)):=zJ (H vJ)
 clear xE qd xG vJ
 obtain ⟨d0,d1,d2,d3,d4,d5,d6,d7⟩:=yz (H vB)
 have c11:=R (H vN).box 11 rfl
 have c12:=R (H vN).box 12 rfl
 have vk:Hid (Calls Tryz.prog 106 #[.agg #[I n0,va],.agg (yx dk ds dt dl dq di dp dg).toArray] cp.drew fun e w'=>e = .returned (I (refR g.nx g.l ⟨dk,ds,dt,dl,dq,di,dp,dg⟩))∧Below cp.drew.heap.size cp.drew w'):=by
  have Q:=(H vN).ahd
  rw [(H ax).2] at Q
  have:=ec g.nx va g.l ⟨dk,ds,dt,dl,dq,di,dp,dg⟩ cp.drew Q (H vN).sla (H qL) (H HSI) (H oa)
  rw [ref_eq] at this
  rw [(H ax).1]
  exact this
 refine zE 5 (by kernel_rfl) (by kernel_rfl) ?_
 simp only [yT,List.take_zero,yU,List.drop_zero]
 repeat still_step
 refine wpStill_nil ?_
 clear d0 d1 d2 d3 d4 d5 d6 d7 c11 c12
 go_wp2_with fail
 refine (H vk).mono ?_
 rintro e w5 ⟨rfl,uf⟩
 have uI:=M (zg (H xX) uf oJ)
 have vz:=M (zv (H vN) uf)
 have ug:=M (fH (H vy) uf)
 clear uf vk xX vN vy vB
 generalize refR g.nx g.l ⟨dk,ds,dt,dl,dq,di,dp,dg⟩ = rr at vY ⊢
 have e0:=R (H uI) 0 rfl
 have e9:=R (H uI) 9 rfl
 have uk:=R (H uI) 11 rfl
 have uA:=R (H uI) 13 rfl
 by_cases h0:rr = 0
 case neg =>
  have b0:(rr != 0) = true:=by simpa using h0
  have HQ:Hid (fm = 5):=by show _ = _; rw [H vY,if_neg h0]
  clear h0
  go_wp2_with fail
  go_ret
  exact ⟨by rw [H HQ]; rfl,H ug⟩
 have b0:(rr != 0) = false:=by simpa using h0
 have vC:=M (H vY)
 rw [if_pos h0] at vC
 clear h0 vY
 have c0:=R (H vz).box 0 rfl
 by_cases Q:id = g.nx
 ·have b1:(id != g.nx) = false:=by simpa using Q
  rw [if_pos Q] at vC
  clear Q
  go_wp2_with fail
  go_quiet (fail)
  go_wp2_with fail
  go_ret
  exact ⟨by rw [H vC]; rfl,zV (H ug) _⟩
 ·have b1:(id != g.nx) = true:=by simpa using Q
  rw [if_neg Q] at vC
  clear Q
  go_wp2_with fail
  go_quiet (fail)
  go_wp2_with fail
  go_ret
  exact ⟨by rw [H vC]; rfl,zV (H ug) _⟩
end Go.Proofs.YtnphbkgfjanmgaaGreatDoor
