/-
  The small functions of the model's matching: proved by walking them.
-/
import Derived.Test.YtbakanofkghmiaaGreatUj21
set_option linter.unusedVariables false
set_option maxHeartbeats 6400000
set_option maxRecDepth 100000
namespace Go.Proofs.YtbakanofkghmiaaGreat
open Go.RowKit
theorem cB (t:Int) (w:World) :
  Calls Tryz.prog 91 #[H t] w fun e w'=>e = yl (.bool (aC t))∧w' = w:=by
 by_cases G:t = 1
 ·subst G
  go_enter Tryz.func91,Tryz.ntmps91
  go_wp2_with fail
  go_ret
  exact ⟨rfl,rfl⟩
 have b1:(t == 1) = false:=by rw [xb]; exact G
 have HK:Hid (aC t = (t == 5)):=by
  show _ = _
  by_cases h5:t = 5 <;> simp [aC,G,h5]
 clear G
 go_enter Tryz.func91,Tryz.ntmps91
 go_wp2_with fail
 go_ret
 exact ⟨zq (U HK).symm,rfl⟩
def br (sd tk:Int) (o:Od):Bool:=if tk = 0 then true else if sd = 1 then decide (o.ticks ≤ tk) else decide (tk ≤ o.ticks)
theorem l04Crosses_any (sd tk:Int) (o:Od) (w:World) :
  Calls Tryz.prog 160 #[H sd,H tk,.agg (yu o.id o.side o.ticks o.left o.life o.tag).toArray] w fun e w'=>e = yl (.bool (br sd tk o))∧ym w w':=by
 obtain ⟨id,side,ticks,left,life,tag⟩:=o
 simp only
 by_cases h0:tk = 0
 ·subst h0
  go_enter Tryz.func160,Tryz.ntmps160
  go_wp2_with fail
  go_ret
  exact ⟨rfl,by go_grown⟩
 have b0:(tk == 0) = false:=by rw [xb]; exact h0
 by_cases G:sd = 1
 ·subst G
  have HK:Hid (br 1 tk ⟨id,side,ticks,left,life,tag⟩ = decide (ticks ≤ tk)):=by show _ = _; simp [br,h0]
  clear h0
  go_enter Tryz.func160,Tryz.ntmps160
  go_wp2_with fail
  go_ret
  exact ⟨zq (U HK).symm,by go_grown⟩
 have b1:(sd == 1) = false:=by rw [xb]; exact G
 have HK:Hid (br sd tk ⟨id,side,ticks,left,life,tag⟩ = decide (tk ≤ ticks)):=by show _ = _; simp [br,h0,G]
 clear h0 G
 go_enter Tryz.func160,Tryz.ntmps160
 go_wp2_with fail
 go_ret
 exact ⟨zq (U HK).symm,by go_grown⟩
theorem dj (v:Value) (l:List Od) (id:Int) (w:World) (hr:RdR Od.vs 6 w v l) :
  Calls Tryz.prog 86 #[v,H id] w fun e w'=>e = yl (H (plc l id))∧ym w w':=by
 obtain ⟨a,A,rfl,xC,hc⟩:=hr
 have xo:∀ (k:Nat) (c:Od),l[k]? = some c→∃ b off,a = some (J b off)∧b < w.heap.size∧w.rangeAt b (off + k * 6) c.vs:=by
  intro k c hk
  obtain ⟨b,off,G,D,h3⟩:=hc (by intro h; rw [h] at hk; simp at hk)
  exact ⟨b,off,G,D,h3 k c hk⟩
 have HC:=Y xo
 clear xo hc
 go_enter Tryz.func86,Tryz.ntmps86
 go_wp2_with fail
 go_loopw [5] (fun iv wr=>∃ (k:Nat),k ≤ l.length∧iv = H k∧Hid (plc l id = plcF id (l.drop k) k)∧ym w wr) (fun iv _=>l.length - (intOf iv).toNat)
 case atStart=>exact ⟨0,Nat.zero_le _,rfl,rfl,Below.refl _ _⟩
 case round =>
  obtain ⟨k,hk,rfl,jp,xh⟩:=hrel
  have HB:=Y xh
  clear xh
  by_cases xI:k < l.length
  ·obtain ⟨c,uJ⟩:∃ c,l[k]? = some c:=⟨_,yF xI⟩
   have HP:Hid (plc l id = if c.id = id then (k:Int) else plcF id (l.drop (k + 1)) (k + 1)):=by
    have:=U jp
    rw [drop_get uJ] at this
    exact this
   obtain ⟨b,off,rfl,O,X⟩:=U HC k c uJ
   obtain ⟨g0,g1,g2,g3,g4,g5⟩:=zz (zb X (U HB) O)
   have uu:(k:Int) < l.length:=by omega
   clear uJ X O jp
   by_cases qG:c.id = id
   ·have O:(c.id == id) = true:=by simpa using qG
    have HK:Hid (plc l id = k):=by have:=U HP; rw [if_pos qG] at this; exact this
    clear qG
    go_wp2_with fail
    go_ret
    exact ⟨zv (U HK).symm,U HB⟩
   ·have O:(c.id == id) = false:=by simpa using qG
    have HK:Hid (plc l id = plcF id (l.drop (k + 1)) (k + 1)):=by have:=U HP; rw [if_neg qG] at this; exact this
    clear qG
    go_wp2_with fail
    go_roundw
    case rel=>exact ⟨k + 1,by omega,by go_num,U HK,U HB⟩
    case measure=>simp [intOf]; omega
  ·have HK:Hid (plc l id = -1):=by
    have h:=U jp
    rw [yY (by omega)] at h
    exact h
   go_wp2_with fail
   go_ret
   exact ⟨zv (U HK).symm,U HB⟩
end Go.Proofs.YtbakanofkghmiaaGreat
