/-
  How a check of an event ends, and a group's block written in parts; no function walked.
-/
import Derived.Test.YtnphbkgfjanmgaaGreatDoorAj28
set_option linter.unusedVariables false
set_option maxHeartbeats 6400000
set_option maxRecDepth 100000
namespace Go.Proofs.YtnphbkgfjanmgaaGreatDoor
open Go.RowKit
def takG (g:Gr) (e:Ev):Gr:={ br g e with bg:=g.bg }
structure Kp (G:Nat) (vq:Value) (w w':World):Prop where
 os:w'.os = w.os
 tape:w'.tape = w.tape
 output:w'.output = w.output
 size:w.heap.size ≤ w'.heap.size
 block:∀ k,k < w.heap.size→k ≠ G→some k ≠ vq.ownBlock→w'.heap[k]? = w.heap[k]?
section
variable {G:Nat} {vq:Value} {w W W':World}
theorem kp_of (h:yp w W):Kp G vq w W:=⟨h.os,h.tape,h.output,h.size,fun k hk _ _=>h.block k hk⟩
theorem bL (h:Kp G vq w W) (Q:yp W W'):Kp G vq w W' :=
 ⟨Q.os.trans h.os,Q.tape.trans h.tape,Q.output.trans h.output,yO h.size Q.size,fun k hk N Y=>(Q.block k (yK hk h.size)).trans (h.block k hk N Y)⟩
theorem kp_drew (h:Kp G vq w W):Kp G vq w W.drew:=⟨h.os,h.tape,h.output,h.size,h.block⟩
theorem kp_set (h:Kp G vq w W) (j:Nat) (u:Value):Kp G vq w (W.setCell (D G j) u) :=
 ⟨h.os,h.tape,h.output,by have:=h.size; simpa [World.setCell] using this,fun k hk N Y=>(yT _ _ _ _ N).trans (h.block k hk N Y)⟩
theorem kp_sets:∀ {W:World} (h:Kp G vq w W) (o:Nat) (us:List Value),Kp G vq w (W.setCells G o us)
 | _,h,_,[]=>h
 | _,h,o,u :: us=>by rw [World.setCells]; exact kp_sets (kp_set h o u) (o + 1) us
theorem kp_took (h:Kp G vq w W) (ht:TookAt G 1 vq.ownBlock W W'):Kp G vq w W' :=
 ⟨ht.os.trans h.os,ht.tape.trans h.tape,ht.output.trans h.output,yO h.size ht.size,fun k hk N Y=>(ht.block k (yK hk h.size) N Y).trans (h.block k hk N Y)⟩
theorem kp_row {b:Nat} (h:Kp G vq w W) (hg:W.grownBy W' (some b)) (Q:vq.ownBlock = some b):Kp G vq w W' :=
 ⟨hg.os.trans h.os,hg.tape.trans h.tape,hg.output.trans h.output,yO h.size hg.size,fun k hk N Y=>(hg.block k (yK hk h.size) (by rw [← Q]; exact Y)).trans (h.block k hk N Y)⟩
theorem kp_to {B r:Nat} {g:Gr} (h:Kp G vq w W) (hs:GS G B r w vq g):Below B w W :=
 ⟨h.os,h.tape,h.output,h.size,fun k hk=>h.block k (yK hk (yO hs.hG (Nat.le_of_lt hs.lt))) (by have:=hs.hG; omega) (fun e=>by have:=(hs.row.lt k e.symm).1; omega)⟩
end
def Chk (G B r:Nat) (vq:Value) (g:Gr) (e:Ev) (w:World) (x:Ending) (w':World):Prop:=x = outR (zG g e)∧Kp G vq w w'∧(zG g e = 0→∃ uH,GS G B r w' uH (takG g e))
section
variable {G B r:Nat} {vq:Value} {g:Gr} {e:Ev} {w w':World}
theorem chk_no {k:Int} (h:zG g e = k) (hk:k ≠ 0) (Q:Kp G vq w w'):Chk G B r vq g e w (.panicked (brk k)) w' :=
 ⟨by rw [h,outR_no hk],Q,fun h0=>absurd (h.symm.trans h0) hk⟩
theorem chk_ok {uH:Value} (h:zG g e = 0) (Q:Kp G vq w w') (hs:GS G B r w' uH (takG g e)):Chk G B r vq g e w (.returned (.tuple #[])) w' :=
 ⟨by rw [outR_ok h],Q,fun _=>⟨uH,hs⟩⟩
end
theorem GS.base {G B r:Nat} {W:World} {vq:Value} {g:Gr} (h:GS G B r W vq g):B ≤ W.heap.size:=yO h.hG (Nat.le_of_lt h.lt)
theorem bx_setAt {b:Nat}:∀ (us:List Value) (o:Nat) (W:World) (vs:List Value),Bx W b vs→o + us.length ≤ vs.length→Bx (W.setCells b o us) b (vs.take o ++ us ++ vs.drop (o + us.length))
 | [],o,W,vs,h,_=>by simpa [World.setCells] using h
 | u :: us,o,W,vs,h,hl=>by
  have Z:o < vs.length:=by simp at hl; omega
  have N:=bx_setAt us (o + 1) (W.setCell (D b o) u) (vs.set o u) (bH h Z) (by simp at hl ⊢; omega)
  rw [World.setCells]
  have e:(vs.set o u).take (o + 1) ++ us ++ (vs.set o u).drop (o + 1 + us.length) = vs.take o ++ (u :: us) ++ vs.drop (o + (u :: us).length):=by
   rw [List.drop_set_of_lt (by omega),List.take_add_one,List.take_set_of_le yb,List.getElem?_set_self Z]
   simp [Nat.add_assoc,Nat.add_comm 1 us.length]
  rwa [e] at N
theorem dR {B e sz n:Nat} {v:Value} {xs:List Value} {b:Nat} (Q:some b ≠ v.ownBlock):∀ (us:List Value) (o:Nat) (W:World),W.ownsRow B e sz v n xs→(W.setCells b o us).ownsRow B e sz v n xs
 | [],_,_,h=>h
 | u :: us,o,W,h=>by rw [World.setCells]; exact dR Q us (o + 1) _ (bN h Q o u)
theorem eB {p:Nat} {t:TypeId} {x:Nat × Nat}:∀ (us:List Value) (o:Nat) (W:World),(∃ xF,W.heap[p]? = some (.cells xF t x))→∃ xF,(W.setCells p o us).heap[p]? = some (.cells xF t x)
 | [],_,_,h=>h
 | u :: us,o,W,⟨xF,h⟩=>by rw [World.setCells]; exact eB us (o + 1) _ (cI W p o u h)
theorem gs_sets {G B r:Nat} {W:World} {vq:Value} {g g':Gr} (h:GS G B r W vq g) (o:Nat) (us:List Value) (hl:o + us.length ≤ 16) (he:gsV r vq g' = (gsV r vq g).take o ++ us ++ (gsV r vq g).drop (o + us.length)) (hll:g'.l = g.l):GS G B r (W.setCells G o us) vq g' :=
 ⟨by rw [he]; exact bx_setAt us o W _ h.box hl,by rw [hll]; exact dR h.nq us o W h.row,eB us o W h.typ,(bY G r h.ne us o W).trans h.mp,h.hG,h.hr⟩
theorem gs_rowset {G B r:Nat} {W W':World} {vq:Value} {g:Gr} {l':List Od} {b:Nat} (h:GS G B r W vq g) (Z:ORow W' B vq l') (hg:W.grownBy W' (some b)) (Q:vq.ownBlock = some b):GS G B r W' vq { g with l:=l' }:=by
 have nG:some G ≠ some b:=by rw [← Q]; exact h.nq
 have nr:some r ≠ some b:=by rw [← Q]; exact h.nr
 refine ⟨bx h.box (hg.block G h.lt nG),Z,?_,(hg.block r h.rlt nr).trans h.mp,h.hG,h.hr⟩
 obtain ⟨xF,hc⟩:=h.typ
 exact ⟨xF,(hg.block G h.lt nG).trans hc⟩
theorem below_tookR {B b:Nat} {w W W':World} (Q:Below B w W) (hg:W.grownBy W' (some b)) (hB:B ≤ b) (hw:B ≤ w.heap.size):Below B w W' :=
 ⟨hg.os.trans Q.os,hg.tape.trans Q.tape,hg.output.trans Q.output,yO Q.size hg.size,fun k hk=>by
  rw [hg.block k (yK (yK hk hw) Q.size) (by simp; omega)]
  exact Q.block k hk⟩
theorem l04Next_none (v:Value) (l:List Od) (t:Od) (w:World) (hr:RdR Od.vs 6 w v l) (hri:bT l) (hn:l.length ≤ 1000) (uV:t.side = 0 ∨ t.side = 1 ∨ t.side = 2) (h0:t.left = 0) :
  Calls Tryz.prog 53 #[v,.agg (yx t.id t.side t.ticks t.left t.life t.tag).toArray] w fun e w'=>∃ k:Int,e = .returned (I k)∧NexS l t k∧yp w w':=by
 have HR:=H hr
 obtain ⟨a,cap,rfl,xz,hc⟩:=hr
 have HRI:=H hri
 have xL:0 ≤ t.side:=by omega
 have ug:t.side ≤ 2:=by omega
 have uf:Hid (yp w (w.alloc (A (yx t.id t.side t.ticks t.left t.life t.tag).toArray 78))):=gp _ _
 have HX:Hid (World.rangeAt (w.alloc (A (yx t.id t.side t.ticks t.left t.life t.tag).toArray 78)) w.heap.size 0 t.vs∧w.heap.size < (w.alloc (A (yx t.id t.side t.ticks t.left t.life t.tag).toArray 78)).heap.size):=⟨zo w t.vs 78,by simp⟩
 have HN:=H (nex_stop (l:=l) h0)
 have b0:(t.left == 0) = true:=by simpa using h0
 clear hc hri uV h0
 go_enter Tryz.func53,Tryz.ntmps53
 go_wp2_with fail
 generalize (w.alloc (A (yx t.id t.side t.ticks t.left t.life t.tag).toArray 78)) = W1 at uf HX ⊢
 refine (fj _ l _ W1 (zi (U HR) (U uf) yb) (U HRI) hn).mono ?_
 rintro e w2 ⟨k,rfl,hf,vh⟩
 have xw:=H ((U uf).trans ((eA vh (fun g hg=>by cases hg) yb).mono (U uf).size))
 have xJ:=H (zy (U HX).1 vh (U HX).2 (by simp))
 obtain ⟨t0,t1,t2,t3,t4,t5⟩:=zB (U xJ)
 clear hf vh xL ug
 go_wp2_with fail
 go_quiet (fail)
 go_wp2_with fail
 go_ret
 exact ⟨_,rfl,U HN,zX (U xw) _⟩
theorem cD (n a b:Int) (w:World) :
  Calls Tryz.prog 47 #[I n,I a,I b] w fun e w'=>e = .returned (.bool (betB n a b))∧w' = w:=by
 go_enter Tryz.func47,Tryz.ntmps47
 go_wp2
 all_goals go_ret
 all_goals exact ⟨zp (by rw [Bool.eq_iff_iff]; simp [betB]; omega),rfl⟩
theorem l03Tag_any (s:ByteArray) (w:World) (hs:s.size ≤ maxLen) :
  Calls Tryz.prog 74 #[yl s] w fun e w'=>e = .returned (.bool (tagB s))∧w' = w:=by
 unfold maxLen at hs
 by_cases hl:s.size ≤ 12
 ·have pP:¬ ((12:Int) < s.size):=by omega
  go_enter Tryz.func74,Tryz.ntmps74
  go_wp2_with fail
  go_loop [3] (fun i=>∃ k:Nat,k ≤ s.size∧i = I k∧Hid (s.data.toList.all tagC = (s.data.toList.drop k).all tagC)) (fun i=>s.size - (intOf i).toNat)
  case atStart=>exact ⟨0,Nat.zero_le _,rfl,by simp [Hid]⟩
  case round =>
   obtain ⟨k,hk,rfl,E⟩:=hrel
   by_cases xI:k < s.size
   ·have uF:(k:Int) < s.size:=by omega
    have jj:=drop_cons s k xI
    have hw:betB (s[k].toNat:Int) 32 126 = tagC s[k]:=rfl
    cases ht:tagC s[k]
    ·have HT:Hid (s.data.toList.all tagC = false):=by
      have:=U E
      rw [jj,List.all_cons,ht,Bool.false_and] at this
      exact this
     rw [ht] at hw
     have aD:(s[k].toNat:Int) < 32 ∨ (32 ≤ (s[k].toNat:Int)∧(126:Int) < s[k].toNat):=by
      simp [betB] at hw; omega
     clear jj ht hw
     rcases aD with h32 | ⟨h32,h126⟩
     ·have hd:decide ((s[k].toNat:Int) < 32) = true:=by simpa using h32
      go_wp2_with fail
      go_ret
      exact ⟨zp (tag_no s (U HT)).symm,rfl⟩
     ·have hd:decide ((s[k].toNat:Int) < 32) = false:=by simpa using h32
      go_wp2_with fail
      go_ret
      exact ⟨zp (tag_no s (U HT)).symm,rfl⟩
    ·have HN:Hid (s.data.toList.all tagC = (s.data.toList.drop (k + 1)).all tagC):=by
      have:=U E
      rw [jj,List.all_cons,ht,Bool.true_and] at this
      exact this
     rw [ht] at hw
     have aD:32 ≤ (s[k].toNat:Int)∧(s[k].toNat:Int) ≤ 126:=by
      simp [betB] at hw; omega
     obtain ⟨h32,h126⟩:=aD
     have hd:decide ((s[k].toNat:Int) < 32) = false:=by simpa using h32
     have hd2:¬ ((126:Int) < s[k].toNat):=by omega
     clear jj ht hw
     go_wp2_with fail
     go_round
     case rel=>exact ⟨k + 1,by omega,by go_num,U HN⟩
     case measure=>simp [intOf]; omega
   ·go_wp2_with fail
    go_ret
    have h:=U E
    rw [xb (by rw [data_len]; omega)] at h
    exact ⟨zp (tag_yes s hl (by rw [h]; rfl)).symm,rfl⟩
 ·have pP:(12:Int) < s.size:=by omega
  go_enter Tryz.func74,Tryz.ntmps74
  go_wp2_with fail
  go_ret
  exact ⟨zp (tag_long s hl).symm,rfl⟩
theorem l03Order_any (o:Od) (w:World) (hs:o.tag.size ≤ maxLen) :
  Calls Tryz.prog 48 #[.agg (yx o.id o.side o.ticks o.left o.life o.tag).toArray] w fun e w'=>e = .returned (.bool (ordB o))∧yp w w':=by
 have HT:=H (fun W=>l03Tag_any o.tag W hs)
 clear hs
 cases N:betB o.side 1 2
 ·go_enter Tryz.func48,Tryz.ntmps48
  go_wp2_with (first | (go_at_call 74; refine (U HT _).mono ?_; rintro e w' ⟨rfl,rfl⟩) | (go_at_call 47; refine (cD _ _ _ _).mono ?_; rintro e w' ⟨rfl,rfl⟩))
  go_ret
  exact ⟨zp (by simp [ordB,N]),by go_grown⟩
 ·
  cases h4:betB o.ticks 1 1000000
  ·go_enter Tryz.func48,Tryz.ntmps48
   go_wp2_with (first | (go_at_call 74; refine (U HT _).mono ?_; rintro e w' ⟨rfl,rfl⟩) | (go_at_call 47; refine (cD _ _ _ _).mono ?_; rintro e w' ⟨rfl,rfl⟩))
   go_ret
   exact ⟨zp (by simp [ordB,N,h4]),by go_grown⟩
  ·
   cases h5:betB o.left 1 1000000
   ·go_enter Tryz.func48,Tryz.ntmps48
    go_wp2_with (first | (go_at_call 74; refine (U HT _).mono ?_; rintro e w' ⟨rfl,rfl⟩) | (go_at_call 47; refine (cD _ _ _ _).mono ?_; rintro e w' ⟨rfl,rfl⟩))
    go_ret
    exact ⟨zp (by simp [ordB,N,h4,h5]),by go_grown⟩
   ·
    cases Y:betB o.life 0 1
    ·go_enter Tryz.func48,Tryz.ntmps48
     go_wp2_with (first | (go_at_call 74; refine (U HT _).mono ?_; rintro e w' ⟨rfl,rfl⟩) | (go_at_call 47; refine (cD _ _ _ _).mono ?_; rintro e w' ⟨rfl,rfl⟩))
     go_ret
     exact ⟨zp (by simp [ordB,N,h4,h5,Y]),by go_grown⟩
    ·
     cases h3:tagB o.tag
     ·go_enter Tryz.func48,Tryz.ntmps48
      go_wp2_with (first | (go_at_call 74; refine (U HT _).mono ?_; rintro e w' ⟨rfl,rfl⟩) | (go_at_call 47; refine (cD _ _ _ _).mono ?_; rintro e w' ⟨rfl,rfl⟩))
      go_ret
      exact ⟨zp (by simp [ordB,N,h4,h5,Y,h3]),by go_grown⟩
     ·go_enter Tryz.func48,Tryz.ntmps48
      go_wp2_with (first | (go_at_call 74; refine (U HT _).mono ?_; rintro e w' ⟨rfl,rfl⟩) | (go_at_call 47; refine (cD _ _ _ _).mono ?_; rintro e w' ⟨rfl,rfl⟩))
      go_ret
      exact ⟨zp (by simp [ordB,N,h4,h5,Y,h3]),by go_grown⟩
theorem l03Levels_any (v:Value) (l:List Od) (w:World) (hr:RdR Od.vs 6 w v l) (hn:l.length ≤ 1000) :
  Calls Tryz.prog 49 #[v] w fun e w'=>e = .returned (I (nlev l:Nat))∧w.grownBy w' none:=by
 obtain ⟨a,cap,rfl,xz,hc⟩:=hr
 have xr:∀ (k:Nat) (c:Od),l[k]? = some c→∃ b off,a = some (D b off)∧b < w.heap.size∧w.rangeAt b (off + k * 6) c.vs:=by
  intro k c hk
  obtain ⟨b,off,N,Y,h3⟩:=hc (by intro h; rw [h] at hk; simp at hk)
  exact ⟨b,off,N,Y,h3 k c hk⟩
 have HC:=H xr
 clear xr hc
 go_enter Tryz.func49,Tryz.ntmps49
 go_wp2_with fail
 go_loopw [3,4] (fun nv iv wr=>∃ (i n:Nat),nv = I n∧i ≤ l.length∧iv = I i∧Hid (n = nlev (l.take i))∧n ≤ i∧w.grownBy wr none) (fun _ iv _=>l.length - (intOf iv).toNat)
 case atStart=>exact ⟨0,0,rfl,Nat.zero_le _,rfl,by simp [Hid,nlev,nlevR],Nat.le_refl _,yS _ _⟩
 case round =>
  obtain ⟨i,n,rfl,hi,rfl,hnl,hni,hg⟩:=hrel
  have HG:=H hg
  clear hg
  by_cases xI:i < l.length
  ·obtain ⟨c,uu⟩:∃ c,l[i]? = some c:=⟨_,yI xI⟩
   obtain ⟨b,off,rfl,Q,F⟩:=U HC i c uu
   have jV:=H uu
   have jB:=H F
   have uF:(i:Int) < l.length:=by omega
   have HNN:Hid (nlev (l.take (i + 1)) = n + (cY c (l.take i)).toNat):=by
    show _ = _
    rw [takeR l i c uu,nlev_fresh,← U hnl]
   clear uu F hnl
   go_wp2_with fail
   go_loopw [5,6] (fun fv kv wq=>∃ (k:Nat) (fb:Bool),fv = .bool fb∧k ≤ i∧kv = I k∧Hid (fb = cY c (l.take k))∧w.grownBy wq none) (fun _ kv _=>i - (intOf kv).toNat)
   case atStart=>exact ⟨0,true,rfl,Nat.zero_le _,rfl,rfl,U HG⟩
   case round =>
    obtain ⟨k,fb,rfl,hk,rfl,oZ,hg⟩:=hrel
    have HGQ:=H hg
    clear hg
    by_cases hki:k < i
    ·obtain ⟨y,hky⟩:∃ y,l[k]? = some y:=⟨_,yI (by omega)⟩
     obtain ⟨b',qA,jP,oW,qz⟩:=U HC k y hky
     simp only [Option.some.injEq,Addr.mk.injEq,and_true] at jP
     obtain ⟨rfl,rfl⟩:=jP
     have HFN:Hid (cY c (l.take (k + 1)) = (fb && difB c y)):=by
      show _ = _
      rw [takeR l k y hky,U oZ,cY,List.all_append]; simp [cY]
     obtain ⟨-,e1,e2,-⟩:=zB (zy (U jB) (U HGQ) Q (by simp))
     obtain ⟨-,d1,d2,-⟩:=zB (zy qz (U HGQ) Q (by simp))
     have hki':(k:Int) < i:=by omega
     have hkl':(k:Int) < l.length:=by omega
     have qF:∀ (fb':Bool),fb' = (fb && difB c y)→Hid (fb' = cY c (l.take (k + 1))):=fun fb' h=>by show _ = _; rw [h,U HFN]
     have jx:=H qF
     clear hky qz qF
     cases fb
     ·go_wp2_with fail
      go_quiet (fail)
      go_wp2_with fail
      go_roundw
      case rel=>exact ⟨k + 1,false,rfl,by omega,by go_num,U jx _ rfl,dw (U HGQ) rfl rfl rfl rfl⟩
      case measure=>simp [intOf]; omega
     ·by_cases N:y.side = c.side
      ·have pJ:(y.side != c.side) = false:=by simpa using N
       by_cases Y:y.ticks = c.ticks
       ·have hd:(true && difB c y) = false:=by simp [difB,N,Y]
        go_wp2_with fail
        go_quiet (fail)
        go_wp2_with fail
        go_roundw
        case rel=>exact ⟨k + 1,false,by first | rfl | simp [Y],by omega,by go_num,U jx _ hd.symm,dw (U HGQ) rfl rfl rfl rfl⟩
        case measure=>simp [intOf]; omega
       ·have hd:(true && difB c y) = true:=by simp [difB,Y]
        go_wp2_with fail
        go_quiet (fail)
        go_wp2_with fail
        go_roundw
        case rel=>exact ⟨k + 1,true,by first | rfl | simp [Y],by omega,by go_num,U jx _ hd.symm,dw (U HGQ) rfl rfl rfl rfl⟩
        case measure=>simp [intOf]; omega
      ·have pJ:(y.side != c.side) = true:=by simpa using N
       have hd:(true && difB c y) = true:=by simp [difB,N]
       go_wp2_with fail
       go_quiet (fail)
       go_wp2_with fail
       go_roundw
       case rel=>exact ⟨k + 1,true,by first | rfl | simp,by omega,by go_num,U jx _ hd.symm,dw (U HGQ) rfl rfl rfl rfl⟩
       case measure=>simp [intOf]; omega
    ·obtain rfl:k = i:=by omega
     have HF:=oZ
     cases fb
     ·have HE:Hid (nlev (l.take (k + 1)) = n):=by show _ = _; rw [U HNN,← U HF]; rfl
      clear oZ
      go_wp2_with fail
      exact ⟨⟨k + 1,n,rfl,by omega,by go_num,(U HE).symm,by omega,U HGQ⟩,by simp [intOf]; omega⟩
     ·have HE:Hid (nlev (l.take (k + 1)) = n + 1):=by show _ = _; rw [U HNN,← U HF]; rfl
      clear oZ
      go_wp2_with fail
      exact ⟨⟨k + 1,n + 1,by go_num,by omega,by go_num,(U HE).symm,by omega,U HGQ⟩,by simp [intOf]; omega⟩
  ·go_wp2_with fail
   go_ret
   have h:=U hnl
   rw [xa (by omega)] at h
   subst h
   exact ⟨rfl,U HG⟩
theorem hit_side {l:List Od} {k:Nat} {o:Od} {q:Int} (hk:l[k]? = some o) (hs:∀ x ∈ l,x.side = 1 ∨ x.side = 2):∀ x ∈ bu l k o q,x.side = 1 ∨ x.side = 2:=by
 intro x hx
 unfold bu at hx
 split at hx
 ·rcases List.mem_append.1 hx with h | h
  ·exact hs x (List.mem_of_mem_take h)
  ·exact hs x (List.mem_of_mem_drop h)
 ·rcases List.mem_or_eq_of_mem_set hx with h | rfl
  ·exact hs x h
  ·exact hs o (yP hk)
theorem matL_side {c:Cm} {id:Int}:∀ (n:Nat) (l:List Od) (left:Int) (ts:List Ev),bT l→GoodL l→0 ≤ left→left ≤ 1000000→(∀ x ∈ l,x.side = 1 ∨ x.side = 2)→∀ x ∈ (matL c id n l left ts).1,x.side = 1 ∨ x.side = 2
 | 0,l,left,ts,_,_,_,_,hs=>hs
 | n + 1,l,left,ts,hr,hg,h0,N,hs=>by
  rw [matL]
  by_cases hl:0 < left
  ·rw [if_pos hl]
   cases hf:bB l (othS c.s) with
   | none=>exact hs
   | some o =>
    simp only
    by_cases hm:bR c o = true
    ·rw [if_pos hm]
     obtain ⟨vX,_⟩:=ec hf
     obtain ⟨k,hk⟩:=List.getElem?_of_mem vX
     have Z:=hg.left o vX
     rw [dc hr hk,Int.toNat_natCast]
     have vh:=(eh hg hk (qty:=min left o.left) (by omega) (by omega)).1
     exact matL_side n _ _ _ vh.rise vh (by omega) (by omega) (hit_side hk hs)
    ·rw [if_neg hm]; exact hs
  ·rw [if_neg hl]; exact hs
def fullS (l:List Od) (t:Od):Bool:=decide (l.length = 20) || decide (8 < nlev (l ++ [t]))
theorem full_eq {l:List Od} {t:Od} (hl:l.length ≤ 20) (hs:∀ x ∈ l ++ [t],x.side = 1 ∨ x.side = 2):fullB (l ++ [t]) = fullS l t:=by
 unfold fullB fullS
 have hn:=nlev_eq hs (dE true _) (dE false _)
 by_cases h:l.length = 20
 ·rw [if_pos (by simp; omega)]; simp [h]
 ·rw [if_neg (by simp; omega),bE,bE,List.length_map,List.length_map,hn]
  simp only [h,decide_false,Bool.false_or]
  rw [Bool.eq_iff_iff]
  simp only [xg]
  omega
def matS (next:Int) (c:Cm) (xo:List Od × Int × List Ev):Int :=
 if c.t = 5∧0 < xo.2.2.length then 11 else if c.t = 4∧0 < xo.2.1 then 12 else if next = 1000000 then 13
 else if bG c.t = true then (if 0 < xo.2.1 then (if xo.1.length = 20 then 13 else if 8 < nlev (xo.1 ++ [⟨next,c.s,tkS c.p,xo.2.1,c.l,c.g⟩]) then 13 else 0) else 0) else 0
theorem matS_eq {next:Int} {c:Cm} {l:List Od} (hg:GoodL l) (uV:∀ x ∈ l,x.side = 1 ∨ x.side = 2) (hs:betB c.s 1 2 = true) (hp:prcB c = true) (hq:betB c.q 1 1000000 = true):matS next c (matL c next 21 l c.q []) = matR next c (matL c next 21 l c.q []):=by
 have hq':1 ≤ c.q∧c.q ≤ 1000000:=by simpa [betB] using hq
 have hgood:=matL_good (c:=c) (id:=next) 21 l c.q [] hg (by omega) (by omega)
 have hside:=matL_side (c:=c) (id:=next) 21 l c.q [] hg.rise hg (by omega) (by omega) uV
 generalize matL c next 21 l c.q [] = xo at *
 unfold matS matR
 by_cases N:c.t = 5∧0 < xo.2.2.length
 ·rw [if_pos N,if_pos N]
 rw [if_neg N,if_neg N]
 by_cases Y:c.t = 4∧0 < xo.2.1
 ·rw [if_pos Y,if_pos Y]
 rw [if_neg Y,if_neg Y]
 by_cases h3:next = 1000000
 ·rw [if_pos h3,if_pos h3]
 rw [if_neg h3,if_neg h3]
 by_cases h4:bG c.t = true
 ·by_cases h5:0 < xo.2.1
  ·rw [if_pos h4,if_pos h5,if_pos (show bG c.t = true∧0 < xo.2.1 from ⟨h4,h5⟩)]
   have pf:c.t ≠ 2:=by
    intro e; rw [e] at h4; exact absurd h4 (by decide)
   have vr:tkOk c.p = true:=by unfold prcB at hp; rw [if_neg pf] at hp; exact hp
   have Z:({ ordO c next with left:=xo.2.1 }:Od) = ⟨next,c.s,tkS c.p,xo.2.1,c.l,c.g⟩:=by
    unfold ordO; rw [tkS_ok vr]
   rw [Z]
   have hfe:=full_eq (l:=xo.1) (t:=⟨next,c.s,tkS c.p,xo.2.1,c.l,c.g⟩) hgood.1.len (fun x hx=>by
    rcases List.mem_append.1 hx with h | h
    ·exact hside x h
    ·simp at h; subst h; exact side_of hs)
   rw [hfe]
   unfold fullS
   by_cases h6:xo.1.length = 20
   ·simp [h6]
   ·by_cases h7:8 < nlev (xo.1 ++ [⟨next,c.s,tkS c.p,xo.2.1,c.l,c.g⟩])
    ·simp [h6,h7]
    ·simp [h6,h7]
  ·rw [if_pos h4,if_neg h5,if_neg (by simp [h5])]
 ·rw [if_neg h4,if_neg (by simp [h4])]
def refS (next:Int) (l:List Od) (c:Cm):Int :=
 if betB c.k 1 4 = false then 1 else if bI c = false then 2 else if c.k = 1 then newR next l c else if c.k = 4 then 0
 else if c.k = 3∧betB c.q 1 1000000 = false then 7 else if plc l c.i < 0 then 9
 else match l[(plc l c.i).toNat]? with | some o=>if c.k = 3∧o.left ≤ c.q then 10 else 0 | none=>0
theorem same_form {k s t l q i:Int} {p:Nat} {g:ByteArray} (hk:k = 1 ∨ k = 2 ∨ k = 3 ∨ k = 4):bI ⟨k,s,t,l,q,i,p,g⟩ = (if k = 1 then bD ⟨1,s,t,l,q,0,p,g⟩ ⟨k,s,t,l,q,i,p,g⟩ else if k = 2 then bD ⟨2,0,0,0,0,i,0,⟨#[]⟩⟩ ⟨k,s,t,l,q,i,p,g⟩ else if k = 3 then bD ⟨3,0,0,0,q,i,0,⟨#[]⟩⟩ ⟨k,s,t,l,q,i,p,g⟩ else bD ⟨4,0,0,0,0,0,0,⟨#[]⟩⟩ ⟨k,s,t,l,q,i,p,g⟩):=by
 have hz:fbit 0 = 0:=by decide
 have he:(⟨#[]⟩:ByteArray).toList = []:=by unfold ByteArray.toList; rw [ByteArray.toList.loop]; rfl
 have hg:∀ x:List UInt8,decide ([] = x) = x.isEmpty:=by intro x; cases x <;> rfl
 rw [Bool.eq_iff_iff]
 rcases hk with rfl | rfl | rfl | rfl
 ·simp [bI,bD]; omega
 ·simp [bI,bD,hz,he]
  constructor
  ·rintro ⟨⟨N,Y,h3,h4,h5⟩,h6⟩
   exact ⟨N.symm,Y.symm,h3.symm,h6.symm,h4.symm,h5⟩
  ·rintro ⟨N,Y,h3,h6,h4,h5⟩
   exact ⟨⟨N.symm,Y.symm,h3.symm,h4.symm,h5⟩,h6.symm⟩
 ·simp [bI,bD,hz,he]
  constructor
  ·rintro ⟨N,Y,h3,h4,h5⟩
   exact ⟨N.symm,Y.symm,h3.symm,h4.symm,h5⟩
  ·rintro ⟨N,Y,h3,h4,h5⟩
   exact ⟨N.symm,Y.symm,h3.symm,h4.symm,h5⟩
 ·simp [bI,bD,hz,he]
  constructor
  ·rintro ⟨⟨N,Y,h3,h4,h5⟩,h6,h7⟩
   exact ⟨N.symm,Y.symm,h3.symm,h6.symm,h7.symm,h4.symm,h5⟩
  ·rintro ⟨N,Y,h3,h6,h7,h4,h5⟩
   exact ⟨⟨N.symm,Y.symm,h3.symm,h4.symm,h5⟩,h6.symm,h7.symm⟩
theorem ref_eq (next:Int) (l:List Od) (c:Cm):refS next l c = refR next l c:=by
 obtain ⟨k,s,t,li,q,i,p,g⟩:=c
 by_cases hk:k = 1 ∨ k = 2 ∨ k = 3 ∨ k = 4
 ·have Q:betB k 1 4 = true:=by simp [betB]; omega
  have hf:=same_form (s:=s) (t:=t) (l:=li) (q:=q) (i:=i) (p:=p) (g:=g) hk
  unfold refS refR
  simp only [Q,hf]
  rcases hk with rfl | rfl | rfl | rfl
  ·simp
   cases bD ⟨1,s,t,li,q,0,p,g⟩ ⟨1,s,t,li,q,i,p,g⟩ <;> simp
  ·simp
   cases bD ⟨2,0,0,0,0,i,0,⟨#[]⟩⟩ ⟨2,s,t,li,q,i,p,g⟩ <;> simp [idR]
   rcases plc_cases l i with e | ⟨k,o,e,Z⟩
   ·rw [e]; rfl
   ·rw [e]; simp [Z]
  ·simp
   cases bD ⟨3,0,0,0,q,i,0,⟨#[]⟩⟩ ⟨3,s,t,li,q,i,p,g⟩ <;> simp [redR]
   cases betB q 1 1000000 <;> simp
   rcases plc_cases l i with e | ⟨k,o,e,Z⟩
   ·rw [e]; rfl
   ·rw [e]; simp [Z]
  ·simp
   cases bD ⟨4,0,0,0,0,0,0,⟨#[]⟩⟩ ⟨4,s,t,li,q,i,p,g⟩ <;> simp
 ·have Q:betB k 1 4 = false:=by
   cases h:betB k 1 4
   ·rfl
   ·simp [betB] at h; omega
  unfold refS refR
  simp only [Q]
  simp
  rw [if_neg (by omega),if_neg (by omega),if_neg (by omega),if_neg (by omega)]
end Go.Proofs.YtnphbkgfjanmgaaGreatDoor
