/-
  The small functions of the model's matching: proved by walking them.
-/
import Derived.Test.YtbakanofkghmiaaGreatQj20
set_option linter.unusedVariables false
set_option maxHeartbeats 6400000
set_option maxRecDepth 100000
namespace Go.Proofs.YtbakanofkghmiaaGreat
open Go.RowKit
theorem cI (t:Int) (w:World) :
  Calls Tryz.prog 91 #[H t] w fun e w'=>e = ym (.bool (aO t))∧w' = w:=by
 by_cases Q:t = 1
 ·subst Q
  go_enter Tryz.func91,Tryz.ntmps91
  go_wp2_with fail
  go_ret
  exact ⟨rfl,rfl⟩
 have b1:(t == 1) = false:=by rw [xe]; exact Q
 have HK:Hid (aO t = (t == 5)):=by
  show _ = _
  by_cases h5:t = 5 <;> simp [aO,Q,h5]
 clear Q
 go_enter Tryz.func91,Tryz.ntmps91
 go_wp2_with fail
 go_ret
 exact ⟨zB (U HK).symm,rfl⟩
def bF (sd tk:Int) (o:Od):Bool:=if tk = 0 then true else if sd = 1 then decide (o.ticks ≤ tk) else decide (tk ≤ o.ticks)
theorem l04Crosses_any (sd tk:Int) (o:Od) (w:World) :
  Calls Tryz.prog 160 #[H sd,H tk,.agg (yw o.id o.side o.ticks o.left o.life o.tag).toArray] w fun e w'=>e = ym (.bool (bF sd tk o))∧yn w w':=by
 obtain ⟨id,side,ticks,left,life,tag⟩:=o
 simp only
 by_cases h0:tk = 0
 ·subst h0
  go_enter Tryz.func160,Tryz.ntmps160
  go_wp2_with fail
  go_ret
  exact ⟨rfl,by go_grown⟩
 have b0:(tk == 0) = false:=by rw [xe]; exact h0
 by_cases Q:sd = 1
 ·subst Q
  have HK:Hid (bF 1 tk ⟨id,side,ticks,left,life,tag⟩ = decide (ticks ≤ tk)):=by show _ = _; simp [bF,h0]
  clear h0
  go_enter Tryz.func160,Tryz.ntmps160
  go_wp2_with fail
  go_ret
  exact ⟨zB (U HK).symm,by go_grown⟩
 have b1:(sd == 1) = false:=by rw [xe]; exact Q
 have HK:Hid (bF sd tk ⟨id,side,ticks,left,life,tag⟩ = decide (tk ≤ ticks)):=by show _ = _; simp [bF,h0,Q]
 clear h0 Q
 go_enter Tryz.func160,Tryz.ntmps160
 go_wp2_with fail
 go_ret
 exact ⟨zB (U HK).symm,by go_grown⟩
theorem dn (v:Value) (l:List Od) (id:Int) (w:World) (hr:RdR Od.vs 6 w v l) :
  Calls Tryz.prog 86 #[v,H id] w fun e w'=>e = ym (H (plc l id))∧yn w w':=by
 obtain ⟨a,A,rfl,xG,hc⟩:=hr
 have xr:∀ (k:Nat) (c:Od),l[k]? = some c→∃ b off,a = some (J b off)∧b < w.heap.size∧w.rangeAt b (off + k * 6) c.vs:=by
  intro k c hk
  obtain ⟨b,off,Q,N,h3⟩:=hc (by intro h; rw [h] at hk; simp at hk)
  exact ⟨b,off,Q,N,h3 k c hk⟩
 have HC:=Y xr
 clear xr hc
 go_enter Tryz.func86,Tryz.ntmps86
 go_wp2_with fail
 go_loopw [5] (fun iv wr=>∃ (k:Nat),k ≤ l.length∧iv = H k∧Hid (plc l id = plcF id (l.drop k) k)∧yn w wr) (fun iv _=>l.length - (intOf iv).toNat)
 case atStart=>exact ⟨0,Nat.zero_le _,rfl,rfl,Below.refl _ _⟩
 case round =>
  obtain ⟨k,hk,rfl,jZ,xm⟩:=hrel
  have HB:=Y xm
  clear xm
  by_cases xL:k < l.length
  ·obtain ⟨c,vd⟩:∃ c,l[k]? = some c:=⟨_,yI xL⟩
   have HP:Hid (plc l id = if c.id = id then (k:Int) else plcF id (l.drop (k + 1)) (k + 1)):=by
    have:=U jZ
    rw [drop_get vd] at this
    exact this
   obtain ⟨b,off,rfl,X,xp⟩:=U HC k c vd
   obtain ⟨g0,g1,g2,g3,g4,g5⟩:=zF (zb xp (U HB) X)
   have uy:(k:Int) < l.length:=by omega
   clear vd xp X jZ
   by_cases qq:c.id = id
   ·have X:(c.id == id) = true:=by simpa using qq
    have HK:Hid (plc l id = k):=by have:=U HP; rw [if_pos qq] at this; exact this
    clear qq
    go_wp2_with fail
    go_ret
    exact ⟨zt (U HK).symm,U HB⟩
   ·have X:(c.id == id) = false:=by simpa using qq
    have HK:Hid (plc l id = plcF id (l.drop (k + 1)) (k + 1)):=by have:=U HP; rw [if_neg qq] at this; exact this
    clear qq
    go_wp2_with fail
    go_roundw
    case rel=>exact ⟨k + 1,by omega,by go_num,U HK,U HB⟩
    case measure=>simp [intOf]; omega
  ·have HK:Hid (plc l id = -1):=by
    have h:=U jZ
    rw [xb (by omega)] at h
    exact h
   go_wp2_with fail
   go_ret
   exact ⟨zt (U HK).symm,U HB⟩
def tag3:List ByteArray:=[⟨#[]⟩,⟨#[97]⟩,⟨#[100,101,115,107,32,55]⟩]
theorem tag3_len:∀ s ∈ tag3,s.size ≤ 20:=by decide +kernel
def tyL:List Int:=[1,1,1,2,3,4,5,5]
def prL:List Nat:=[4636666922610458624,4636684514796503040,4636702106982547456,4636719699168591872,4636737291354636288,4636754883540680704,4636772475726725120,4636790067912769536,4636807660098813952]
theorem prO_ex (k:Nat) (h:k < 9):∃ a b,PrO k a b (prL.getD k 0):=by
 rcases (by omega:k = 0 ∨ k = 1 ∨ k = 2 ∨ k = 3 ∨ k = 4 ∨ k = 5 ∨ k = 6 ∨ k = 7 ∨ k = 8) with rfl | rfl | rfl | rfl | rfl | rfl | rfl | rfl | rfl
 ·exact ⟨_,_,prO_0⟩
 ·exact ⟨_,_,prO_1⟩
 ·exact ⟨_,_,prO_2⟩
 ·exact ⟨_,_,prO_3⟩
 ·exact ⟨_,_,prO_4⟩
 ·exact ⟨_,_,prO_5⟩
 ·exact ⟨_,_,prO_6⟩
 ·exact ⟨_,_,prO_7⟩
 ·exact ⟨_,_,prO_8⟩
def cpF (l:List Int) (F:Int) (s:Sr):Nat × Sr:=if F = 2 then (0,s) else (prL.getD (nxF l 9 s).1.toNat 0,(nxF l 9 s).2)
def clF (l:List Int) (F:Int) (s:Sr):Int × Sr:=if aO F = true then (if (nxF l 3 s).1 = 2 then 1 else 0,(nxF l 3 s).2) else (0,s)
def cnF (l:List Int) (s:Sr):Cm × Sr :=
 let a:=nxF l 2 s
 let b:=nxF l 8 a.2
 let d:=nxF l 12 b.2
 let g:=nxF l 3 d.2
 let F:=tyL.getD b.1.toNat 0
 let e:=cpF l F g.2
 let f:=clF l F e.2
 (⟨1,1 + a.1,F,f.1,1 + d.1,0,e.1,tag3.getD g.1.toNat ⟨#[]⟩⟩,f.2)
def cmdF (l:List Int) (ids:Int) (s:Sr):Cm × Sr :=
 let r:=nxF l 12 s
 if r.1 = 0 then rawF l r.2
 else if r.1 = 1 then (⟨2,0,0,0,0,1 + (nxF l (ids + 1) r.2).1,0,⟨#[]⟩⟩,(nxF l (ids + 1) r.2).2)
 else if r.1 = 2 then (⟨3,0,0,0,(nxF l 6 (nxF l (ids + 1) r.2).2).1,1 + (nxF l (ids + 1) r.2).1,0,⟨#[]⟩⟩,(nxF l 6 (nxF l (ids + 1) r.2).2).2)
 else if r.1 = 3 then (⟨4,0,0,0,0,0,0,⟨#[]⟩⟩,r.2)
 else cnF l r.2
def scrF (l:List Int):Nat→Nat→Sr→List Cm × Sr
 | 0,_,s=>([],s)
 | n + 1,k,s=>((cmdF l k s).1 :: (scrF l n (k + 1) (cmdF l k s).2).1,(scrF l n (k + 1) (cmdF l k s).2).2)
theorem cp_at (l:List Int) (F:Int) (s:Sr):(cpF l F s).2.at_ ≤ s.at_ + 3:=by
 rw [cpF]; split
 ·show s.at_ ≤ s.at_ + 3; omega
 ·exact aN l 9 s
theorem cl_at (l:List Int) (F:Int) (s:Sr):(clF l F s).2.at_ ≤ s.at_ + 3:=by
 rw [clF]; split
 ·exact aN l 3 s
 ·show s.at_ ≤ s.at_ + 3; omega
theorem cn_at (l:List Int) (s:Sr):(cnF l s).2.at_ ≤ s.at_ + 18:=by
 have Q:=aN l 2 s
 have N:=aN l 8 (nxF l 2 s).2
 have h3:=aN l 12 (nxF l 8 (nxF l 2 s).2).2
 have h4:=aN l 3 (nxF l 12 (nxF l 8 (nxF l 2 s).2).2).2
 rw [cnF]
 simp only
 generalize tyL.getD (nxF l 8 (nxF l 2 s).2).1.toNat 0 = F
 have h5:=cp_at l F (nxF l 3 (nxF l 12 (nxF l 8 (nxF l 2 s).2).2).2).2
 have h6:=cl_at l F (cpF l F (nxF l 3 (nxF l 12 (nxF l 8 (nxF l 2 s).2).2).2).2).2
 omega
theorem cmd_at (l:List Int) (ids:Int) (s:Sr):(cmdF l ids s).2.at_ ≤ s.at_ + 30:=by
 have h0:=aN l 12 s
 have Q:=raw_at l (nxF l 12 s).2
 have N:=aN l (ids + 1) (nxF l 12 s).2
 have h3:=aN l 6 (nxF l (ids + 1) (nxF l 12 s).2).2
 have h4:=cn_at l (nxF l 12 s).2
 rw [cmdF]
 split
 ·omega
 ·split
  ·show (nxF l (ids + 1) (nxF l 12 s).2).2.at_ ≤ _; omega
  ·split
   ·show (nxF l 6 (nxF l (ids + 1) (nxF l 12 s).2).2).2.at_ ≤ _; omega
   ·split
    ·show (nxF l 12 s).2.at_ ≤ _; omega
    ·omega
end Go.Proofs.YtbakanofkghmiaaGreat
