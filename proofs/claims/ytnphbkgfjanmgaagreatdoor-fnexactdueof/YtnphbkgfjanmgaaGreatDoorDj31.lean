/-
  How a check of an event ends, and a group's block written in parts; no function walked.
-/
import Derived.Test.YtnphbkgfjanmgaaGreatDoorDj30
set_option linter.unusedVariables false
set_option maxHeartbeats 6400000
set_option maxRecDepth 100000
namespace Go.Proofs.YtnphbkgfjanmgaaGreatDoor
open Go.RowKit
def takG (g:Gr) (e:Ev):Gr:={ aM g e with bg:=g.bg }
structure Kp (G:Nat) (vq:Value) (w w':World):Prop where
 os:w'.os = w.os
 tape:w'.tape = w.tape
 output:w'.output = w.output
 size:w.heap.size ≤ w'.heap.size
 block:∀ k,k < w.heap.size→k ≠ G→some k ≠ vq.ownBlock→w'.heap[k]? = w.heap[k]?
section
variable {G:Nat} {vq:Value} {w W W':World}
theorem kp_of (h:yp w W):Kp G vq w W:=⟨h.os,h.tape,h.output,h.size,fun k hk _ _=>h.block k hk⟩
theorem ba (h:Kp G vq w W) (E:yp W W'):Kp G vq w W' :=
 ⟨E.os.trans h.os,E.tape.trans h.tape,E.output.trans h.output,yO h.size E.size,fun k hk N Y=>(E.block k (yK hk h.size)).trans (h.block k hk N Y)⟩
theorem kp_drew (h:Kp G vq w W):Kp G vq w W.drew:=⟨h.os,h.tape,h.output,h.size,h.block⟩
theorem kp_set (h:Kp G vq w W) (j:Nat) (u:Value):Kp G vq w (W.setCell (Q G j) u) :=
 ⟨h.os,h.tape,h.output,by have:=h.size; simpa [World.setCell] using this,fun k hk N Y=>(yT _ _ _ _ N).trans (h.block k hk N Y)⟩
theorem kp_sets:∀ {W:World} (h:Kp G vq w W) (o:Nat) (us:List Value),Kp G vq w (W.setCells G o us)
 | _,h,_,[]=>h
 | _,h,o,u :: us=>by rw [World.setCells]; exact kp_sets (kp_set h o u) (o + 1) us
theorem kp_took (h:Kp G vq w W) (ht:TookAt G 1 vq.ownBlock W W'):Kp G vq w W' :=
 ⟨ht.os.trans h.os,ht.tape.trans h.tape,ht.output.trans h.output,yO h.size ht.size,fun k hk N Y=>(ht.block k (yK hk h.size) N Y).trans (h.block k hk N Y)⟩
theorem kp_row {b:Nat} (h:Kp G vq w W) (hg:W.grownBy W' (some b)) (E:vq.ownBlock = some b):Kp G vq w W' :=
 ⟨hg.os.trans h.os,hg.tape.trans h.tape,hg.output.trans h.output,yO h.size hg.size,fun k hk N Y=>(hg.block k (yK hk h.size) (by rw [← E]; exact Y)).trans (h.block k hk N Y)⟩
theorem kp_to {B r:Nat} {g:Gr} (h:Kp G vq w W) (hs:GS G B r w vq g):Below B w W :=
 ⟨h.os,h.tape,h.output,h.size,fun k hk=>h.block k (yK hk (yO hs.hG (Nat.le_of_lt hs.lt))) (by have:=hs.hG; omega) (fun e=>by have:=(hs.row.lt k e.symm).1; omega)⟩
end
def Chk (G B r:Nat) (vq:Value) (g:Gr) (e:Ev) (w:World) (x:Ending) (w':World):Prop:=x = outR (zF g e)∧Kp G vq w w'∧(zF g e = 0→∃ uE,GS G B r w' uE (takG g e))
section
variable {G B r:Nat} {vq:Value} {g:Gr} {e:Ev} {w w':World}
theorem chk_no {k:Int} (h:zF g e = k) (hk:k ≠ 0) (E:Kp G vq w w'):Chk G B r vq g e w (.panicked (brk k)) w' :=
 ⟨by rw [h,outR_no hk],E,fun h0=>absurd (h.symm.trans h0) hk⟩
theorem chk_ok {uE:Value} (h:zF g e = 0) (E:Kp G vq w w') (hs:GS G B r w' uE (takG g e)):Chk G B r vq g e w (.returned (.tuple #[])) w' :=
 ⟨by rw [outR_ok h],E,fun _=>⟨uE,hs⟩⟩
end
theorem GS.base {G B r:Nat} {W:World} {vq:Value} {g:Gr} (h:GS G B r W vq g):B ≤ W.heap.size:=yO h.hG (Nat.le_of_lt h.lt)
theorem bx_setAt {b:Nat}:∀ (us:List Value) (o:Nat) (W:World) (vs:List Value),Bx W b vs→o + us.length ≤ vs.length→Bx (W.setCells b o us) b (vs.take o ++ us ++ vs.drop (o + us.length))
 | [],o,W,vs,h,_=>by simpa [World.setCells] using h
 | u :: us,o,W,vs,h,hl=>by
  have Z:o < vs.length:=by simp at hl; omega
  have N:=bx_setAt us (o + 1) (W.setCell (Q b o) u) (vs.set o u) (aX h Z) (by simp at hl ⊢; omega)
  rw [World.setCells]
  have e:(vs.set o u).take (o + 1) ++ us ++ (vs.set o u).drop (o + 1 + us.length) = vs.take o ++ (u :: us) ++ vs.drop (o + (u :: us).length):=by
   rw [List.drop_set_of_lt (by omega),List.take_add_one,List.take_set_of_le yb,List.getElem?_set_self Z]
   simp [Nat.add_assoc,Nat.add_comm 1 us.length]
  rwa [e] at N
theorem dS {B e sz n:Nat} {v:Value} {xs:List Value} {b:Nat} (E:some b ≠ v.ownBlock):∀ (us:List Value) (o:Nat) (W:World),W.ownsRow B e sz v n xs→(W.setCells b o us).ownsRow B e sz v n xs
 | [],_,_,h=>h
 | u :: us,o,W,h=>by rw [World.setCells]; exact dS E us (o + 1) _ (bd h E o u)
theorem dN {p:Nat} {t:TypeId} {x:Nat × Nat}:∀ (us:List Value) (o:Nat) (W:World),(∃ xF,W.heap[p]? = some (.cells xF t x))→∃ xF,(W.setCells p o us).heap[p]? = some (.cells xF t x)
 | [],_,_,h=>h
 | u :: us,o,W,⟨xF,h⟩=>by rw [World.setCells]; exact dN us (o + 1) _ (bN W p o u h)
theorem gs_sets {G B r:Nat} {W:World} {vq:Value} {g g':Gr} (h:GS G B r W vq g) (o:Nat) (us:List Value) (hl:o + us.length ≤ 16) (he:gsV r vq g' = (gsV r vq g).take o ++ us ++ (gsV r vq g).drop (o + us.length)) (hll:g'.l = g.l):GS G B r (W.setCells G o us) vq g' :=
 ⟨by rw [he]; exact bx_setAt us o W _ h.box hl,by rw [hll]; exact dS h.nq us o W h.row,dN us o W h.typ,(bA G r h.ne us o W).trans h.mp,h.hG,h.hr⟩
theorem gs_rowset {G B r:Nat} {W W':World} {vq:Value} {g:Gr} {l':List Od} {b:Nat} (h:GS G B r W vq g) (Z:ORow W' B vq l') (hg:W.grownBy W' (some b)) (E:vq.ownBlock = some b):GS G B r W' vq { g with l:=l' }:=by
 have nG:some G ≠ some b:=by rw [← E]; exact h.nq
 have nr:some r ≠ some b:=by rw [← E]; exact h.nr
 refine ⟨aO h.box (hg.block G h.lt nG),Z,?_,(hg.block r h.rlt nr).trans h.mp,h.hG,h.hr⟩
 obtain ⟨xF,hc⟩:=h.typ
 exact ⟨xF,(hg.block G h.lt nG).trans hc⟩
theorem below_tookR {B b:Nat} {w W W':World} (E:Below B w W) (hg:W.grownBy W' (some b)) (hB:B ≤ b) (hw:B ≤ w.heap.size):Below B w W' :=
 ⟨hg.os.trans E.os,hg.tape.trans E.tape,hg.output.trans E.output,yO E.size hg.size,fun k hk=>by
  rw [hg.block k (yK (yK hk hw) E.size) (by simp; omega)]
  exact E.block k hk⟩
theorem l04Next_none (v:Value) (l:List Od) (t:Od) (w:World) (hr:RdR Od.vs 6 w v l) (hri:bu l) (hn:l.length ≤ 1000) (uS:t.side = 0 ∨ t.side = 1 ∨ t.side = 2) (h0:t.left = 0) :
  Calls Tryz.prog 53 #[v,.agg (yx t.id t.side t.ticks t.left t.life t.tag).toArray] w fun e w'=>∃ k:Int,e = .returned (I k)∧NexS l t k∧yp w w':=by
 have HR:=H hr
 obtain ⟨a,cap,rfl,xA,hc⟩:=hr
 have HRI:=H hri
 have xK:0 ≤ t.side:=by omega
 have uf:t.side ≤ 2:=by omega
 have ue:Hid (yp w (w.alloc (L (yx t.id t.side t.ticks t.left t.life t.tag).toArray 78))):=fw _ _
 have HX:Hid (World.rangeAt (w.alloc (L (yx t.id t.side t.ticks t.left t.life t.tag).toArray 78)) w.heap.size 0 t.vs∧w.heap.size < (w.alloc (L (yx t.id t.side t.ticks t.left t.life t.tag).toArray 78)).heap.size):=⟨zn w t.vs 78,by simp⟩
 have HN:=H (nex_stop (l:=l) h0)
 have b0:(t.left == 0) = true:=by simpa using h0
 clear hc hri uS h0
 go_enter Tryz.func53,Tryz.ntmps53
 go_wp2_with fail
 generalize (w.alloc (L (yx t.id t.side t.ticks t.left t.life t.tag).toArray 78)) = W1 at ue HX ⊢
 refine (er _ l _ W1 (zh (U HR) (U ue) yb) (U HRI) hn).mono ?_
 rintro e w2 ⟨k,rfl,hf,uZ⟩
 have xw:=H ((U ue).trans ((dM uZ (fun g hg=>by cases hg) yb).mono (U ue).size))
 have xI:=H (zx (U HX).1 uZ (U HX).2 (by simp))
 obtain ⟨t0,t1,t2,t3,t4,t5⟩:=zB (U xI)
 clear hf uZ xK uf
 go_wp2_with fail
 go_quiet (fail)
 go_wp2_with fail
 go_ret
 exact ⟨_,rfl,U HN,zV (U xw) _⟩
theorem bJ (n a b:Int) (w:World) :
  Calls Tryz.prog 47 #[I n,I a,I b] w fun e w'=>e = .returned (.bool (betB n a b))∧w' = w:=by
 go_enter Tryz.func47,Tryz.ntmps47
 go_wp2
 all_goals go_ret
 all_goals exact ⟨zp (by rw [Bool.eq_iff_iff]; simp [betB]; omega),rfl⟩
theorem l03Tag_any (s:ByteArray) (w:World) (hs:s.size ≤ maxLen) :
  Calls Tryz.prog 74 #[yl s] w fun e w'=>e = .returned (.bool (tagB s))∧w' = w:=by
 unfold maxLen at hs
 by_cases hl:s.size ≤ 12
 ·have px:¬ ((12:Int) < s.size):=by omega
  go_enter Tryz.func74,Tryz.ntmps74
  go_wp2_with fail
  go_loop [3] (fun i=>∃ k:Nat,k ≤ s.size∧i = I k∧Hid (s.data.toList.all tagC = (s.data.toList.drop k).all tagC)) (fun i=>s.size - (intOf i).toNat)
  case atStart=>exact ⟨0,Nat.zero_le _,rfl,by simp [Hid]⟩
  case round =>
   obtain ⟨k,hk,rfl,D⟩:=hrel
   by_cases xJ:k < s.size
   ·have uF:(k:Int) < s.size:=by omega
    have qZ:=drop_cons s k xJ
    have hw:betB (s[k].toNat:Int) 32 126 = tagC s[k]:=rfl
    cases ht:tagC s[k]
    ·have HT:Hid (s.data.toList.all tagC = false):=by
      have:=U D
      rw [qZ,List.all_cons,ht,Bool.false_and] at this
      exact this
     rw [ht] at hw
     have pX:(s[k].toNat:Int) < 32 ∨ (32 ≤ (s[k].toNat:Int)∧(126:Int) < s[k].toNat):=by
      simp [betB] at hw; omega
     clear qZ ht hw
     rcases pX with h32 | ⟨h32,h126⟩
     ·have hd:decide ((s[k].toNat:Int) < 32) = true:=by simpa using h32
      go_wp2_with fail
      go_ret
      exact ⟨zp (tag_no s (U HT)).symm,rfl⟩
     ·have hd:decide ((s[k].toNat:Int) < 32) = false:=by simpa using h32
      go_wp2_with fail
      go_ret
      exact ⟨zp (tag_no s (U HT)).symm,rfl⟩
    ·have HN:Hid (s.data.toList.all tagC = (s.data.toList.drop (k + 1)).all tagC):=by
      have:=U D
      rw [qZ,List.all_cons,ht,Bool.true_and] at this
      exact this
     rw [ht] at hw
     have pX:32 ≤ (s[k].toNat:Int)∧(s[k].toNat:Int) ≤ 126:=by
      simp [betB] at hw; omega
     obtain ⟨h32,h126⟩:=pX
     have hd:decide ((s[k].toNat:Int) < 32) = false:=by simpa using h32
     have hd2:¬ ((126:Int) < s[k].toNat):=by omega
     clear qZ ht hw
     go_wp2_with fail
     go_round
     case rel=>exact ⟨k + 1,by omega,by go_num,U HN⟩
     case measure=>simp [intOf]; omega
   ·go_wp2_with fail
    go_ret
    have h:=U D
    rw [xb (by rw [data_len]; omega)] at h
    exact ⟨zp (tag_yes s hl (by rw [h]; rfl)).symm,rfl⟩
 ·have px:(12:Int) < s.size:=by omega
  go_enter Tryz.func74,Tryz.ntmps74
  go_wp2_with fail
  go_ret
  exact ⟨zp (tag_long s hl).symm,rfl⟩
theorem l03Order_any (o:Od) (w:World) (hs:o.tag.size ≤ maxLen) :
  Calls Tryz.prog 48 #[.agg (yx o.id o.side o.ticks o.left o.life o.tag).toArray] w fun e w'=>e = .returned (.bool (ordB o))∧yp w w':=by
 have HT:=H (fun W=>l03Tag_any o.tag W hs)
 clear hs
 cases N:betB o.side 1 2
 ·go_enter Tryz.func48,Tryz.ntmps48
  go_wp2_with (first | (go_at_call 74; refine (U HT _).mono ?_; rintro e w' ⟨rfl,rfl⟩) | (go_at_call 47; refine (bJ _ _ _ _).mono ?_; rintro e w' ⟨rfl,rfl⟩))
  go_ret
  exact ⟨zp (by simp [ordB,N]),by go_grown⟩
 ·
  cases h4:betB o.ticks 1 1000000
  ·go_enter Tryz.func48,Tryz.ntmps48
   go_wp2_with (first | (go_at_call 74; refine (U HT _).mono ?_; rintro e w' ⟨rfl,rfl⟩) | (go_at_call 47; refine (bJ _ _ _ _).mono ?_; rintro e w' ⟨rfl,rfl⟩))
   go_ret
   exact ⟨zp (by simp [ordB,N,h4]),by go_grown⟩
  ·
   cases h5:betB o.left 1 1000000
   ·go_enter Tryz.func48,Tryz.ntmps48
    go_wp2_with (first | (go_at_call 74; refine (U HT _).mono ?_; rintro e w' ⟨rfl,rfl⟩) | (go_at_call 47; refine (bJ _ _ _ _).mono ?_; rintro e w' ⟨rfl,rfl⟩))
    go_ret
    exact ⟨zp (by simp [ordB,N,h4,h5]),by go_grown⟩
   ·
    cases Y:betB o.life 0 1
    ·go_enter Tryz.func48,Tryz.ntmps48
     go_wp2_with (first | (go_at_call 74; refine (U HT _).mono ?_; rintro e w' ⟨rfl,rfl⟩) | (go_at_call 47; refine (bJ _ _ _ _).mono ?_; rintro e w' ⟨rfl,rfl⟩))
     go_ret
     exact ⟨zp (by simp [ordB,N,h4,h5,Y]),by go_grown⟩
    ·
     cases h3:tagB o.tag
     ·go_enter Tryz.func48,Tryz.ntmps48
      go_wp2_with (first | (go_at_call 74; refine (U HT _).mono ?_; rintro e w' ⟨rfl,rfl⟩) | (go_at_call 47; refine (bJ _ _ _ _).mono ?_; rintro e w' ⟨rfl,rfl⟩))
      go_ret
      exact ⟨zp (by simp [ordB,N,h4,h5,Y,h3]),by go_grown⟩
     ·go_enter Tryz.func48,Tryz.ntmps48
      go_wp2_with (first | (go_at_call 74; refine (U HT _).mono ?_; rintro e w' ⟨rfl,rfl⟩) | (go_at_call 47; refine (bJ _ _ _ _).mono ?_; rintro e w' ⟨rfl,rfl⟩))
      go_ret
      exact ⟨zp (by simp [ordB,N,h4,h5,Y,h3]),by go_grown⟩
theorem l03Levels_any (v:Value) (l:List Od) (w:World) (hr:RdR Od.vs 6 w v l) (hn:l.length ≤ 1000) :
  Calls Tryz.prog 49 #[v] w fun e w'=>e = .returned (I (nlev l:Nat))∧w.grownBy w' none:=by
 obtain ⟨a,cap,rfl,xA,hc⟩:=hr
 have xt:∀ (k:Nat) (c:Od),l[k]? = some c→∃ b off,a = some (Q b off)∧b < w.heap.size∧w.rangeAt b (off + k * 6) c.vs:=by
  intro k c hk
  obtain ⟨b,off,N,Y,h3⟩:=hc (by intro h; rw [h] at hk; simp at hk)
  exact ⟨b,off,N,Y,h3 k c hk⟩
 have HC:=H xt
 clear xt hc
 go_enter Tryz.func49,Tryz.ntmps49
 go_wp2_with fail
 go_loopw [3,4] (fun nv iv wr=>∃ (i n:Nat),nv = I n∧i ≤ l.length∧iv = I i∧Hid (n = nlev (l.take i))∧n ≤ i∧w.grownBy wr none) (fun _ iv _=>l.length - (intOf iv).toNat)
 case atStart=>exact ⟨0,0,rfl,Nat.zero_le _,rfl,by simp [Hid,nlev,nlevR],Nat.le_refl _,yS _ _⟩
 case round =>
  obtain ⟨i,n,rfl,hi,rfl,hnl,hni,hg⟩:=hrel
  have HG:=H hg
  clear hg
  by_cases xJ:i < l.length
  ·obtain ⟨c,ur⟩:∃ c,l[i]? = some c:=⟨_,yI xJ⟩
   obtain ⟨b,off,rfl,E,X⟩:=U HC i c ur
   have jK:=H ur
   have jq:=H X
   have uF:(i:Int) < l.length:=by omega
   have HNN:Hid (nlev (l.take (i + 1)) = n + (ch c (l.take i)).toNat):=by
    show _ = _
    rw [takeR l i c ur,nlev_fresh,← U hnl]
   clear ur X hnl
   go_wp2_with fail
   go_loopw [5,6] (fun fv kv wq=>∃ (k:Nat) (fb:Bool),fv = .bool fb∧k ≤ i∧kv = I k∧Hid (fb = ch c (l.take k))∧w.grownBy wq none) (fun _ kv _=>i - (intOf kv).toNat)
   case atStart=>exact ⟨0,true,rfl,Nat.zero_le _,rfl,rfl,U HG⟩
   case round =>
    obtain ⟨k,fb,rfl,hk,rfl,oI,hg⟩:=hrel
    have HGQ:=H hg
    clear hg
    by_cases hki:k < i
    ·obtain ⟨y,hky⟩:∃ y,l[k]? = some y:=⟨_,yI (by omega)⟩
     obtain ⟨b',qr,jF,hb',qp⟩:=U HC k y hky
     simp only [Option.some.injEq,Addr.mk.injEq,and_true] at jF
     obtain ⟨rfl,rfl⟩:=jF
     have HFN:Hid (ch c (l.take (k + 1)) = (fb && difB c y)):=by
      show _ = _
      rw [takeR l k y hky,U oI,ch,List.all_append]; simp [ch]
     obtain ⟨-,e1,e2,-⟩:=zB (zx (U jq) (U HGQ) E (by simp))
     obtain ⟨-,d1,d2,-⟩:=zB (zx qp (U HGQ) E (by simp))
     have hki':(k:Int) < i:=by omega
     have hkl':(k:Int) < l.length:=by omega
     have qy:∀ (fb':Bool),fb' = (fb && difB c y)→Hid (fb' = ch c (l.take (k + 1))):=fun fb' h=>by show _ = _; rw [h,U HFN]
     have jk:=H qy
     clear hky qp qy
     cases fb
     ·go_wp2_with fail
      go_quiet (fail)
      go_wp2_with fail
      go_roundw
      case rel=>exact ⟨k + 1,false,rfl,by omega,by go_num,U jk _ rfl,cE (U HGQ) rfl rfl rfl rfl⟩
      case measure=>simp [intOf]; omega
     ·by_cases N:y.side = c.side
      ·have pp:(y.side != c.side) = false:=by simpa using N
       by_cases Y:y.ticks = c.ticks
       ·have hd:(true && difB c y) = false:=by simp [difB,N,Y]
        go_wp2_with fail
        go_quiet (fail)
        go_wp2_with fail
        go_roundw
        case rel=>exact ⟨k + 1,false,by first | rfl | simp [Y],by omega,by go_num,U jk _ hd.symm,cE (U HGQ) rfl rfl rfl rfl⟩
        case measure=>simp [intOf]; omega
       ·have hd:(true && difB c y) = true:=by simp [difB,Y]
        go_wp2_with fail
        go_quiet (fail)
        go_wp2_with fail
        go_roundw
        case rel=>exact ⟨k + 1,true,by first | rfl | simp [Y],by omega,by go_num,U jk _ hd.symm,cE (U HGQ) rfl rfl rfl rfl⟩
        case measure=>simp [intOf]; omega
      ·have pp:(y.side != c.side) = true:=by simpa using N
       have hd:(true && difB c y) = true:=by simp [difB,N]
       go_wp2_with fail
       go_quiet (fail)
       go_wp2_with fail
       go_roundw
       case rel=>exact ⟨k + 1,true,by first | rfl | simp,by omega,by go_num,U jk _ hd.symm,cE (U HGQ) rfl rfl rfl rfl⟩
       case measure=>simp [intOf]; omega
    ·obtain rfl:k = i:=by omega
     have HF:=oI
     cases fb
     ·have HE:Hid (nlev (l.take (k + 1)) = n):=by show _ = _; rw [U HNN,← U HF]; rfl
      clear oI
      go_wp2_with fail
      exact ⟨⟨k + 1,n,rfl,by omega,by go_num,(U HE).symm,by omega,U HGQ⟩,by simp [intOf]; omega⟩
     ·have HE:Hid (nlev (l.take (k + 1)) = n + 1):=by show _ = _; rw [U HNN,← U HF]; rfl
      clear oI
      go_wp2_with fail
      exact ⟨⟨k + 1,n + 1,by go_num,by omega,by go_num,(U HE).symm,by omega,U HGQ⟩,by simp [intOf]; omega⟩
  ·go_wp2_with fail
   go_ret
   have h:=U hnl
   rw [xa (by omega)] at h
   subst h
   exact ⟨rfl,U HG⟩
theorem hit_side {l:List Od} {k:Nat} {o:Od} {q:Int} (hk:l[k]? = some o) (hs:∀ x ∈ l,x.side = 1 ∨ x.side = 2):∀ x ∈ aN l k o q,x.side = 1 ∨ x.side = 2:=by
 intro x hx
 unfold aN at hx
 split at hx
 ·rcases List.mem_append.1 hx with h | h
  ·exact hs x (List.mem_of_mem_take h)
  ·exact hs x (List.mem_of_mem_drop h)
 ·rcases List.mem_or_eq_of_mem_set hx with h | rfl
  ·exact hs x h
  ·exact hs o (yP hk)
theorem matL_side {c:Cm} {id:Int}:∀ (n:Nat) (l:List Od) (left:Int) (ts:List Ev),bu l→GoodL l→0 ≤ left→left ≤ 1000000→(∀ x ∈ l,x.side = 1 ∨ x.side = 2)→∀ x ∈ (matL c id n l left ts).1,x.side = 1 ∨ x.side = 2
 | 0,l,left,ts,_,_,_,_,hs=>hs
 | n + 1,l,left,ts,hr,hg,h0,N,hs=>by
  rw [matL]
  by_cases hl:0 < left
  ·rw [if_pos hl]
   cases hf:aR l (othS c.s) with
   | none=>exact hs
   | some o =>
    simp only
    by_cases hm:bp c o = true
    ·rw [if_pos hm]
     obtain ⟨vS,_⟩:=dj hf
     obtain ⟨k,hk⟩:=List.getElem?_of_mem vS
     have Z:=hg.left o vS
     rw [co hr hk,Int.toNat_natCast]
     have uZ:=(dw hg hk (qty:=min left o.left) (by omega) (by omega)).1
     exact matL_side n _ _ _ uZ.rise uZ (by omega) (by omega) (hit_side hk hs)
    ·rw [if_neg hm]; exact hs
  ·rw [if_neg hl]; exact hs
def fullS (l:List Od) (t:Od):Bool:=decide (l.length = 20) || decide (8 < nlev (l ++ [t]))
theorem full_eq {l:List Od} {t:Od} (hl:l.length ≤ 20) (hs:∀ x ∈ l ++ [t],x.side = 1 ∨ x.side = 2):fullB (l ++ [t]) = fullS l t:=by
 unfold fullB fullS
 have hn:=nlev_eq hs (cI true _) (cI false _)
 by_cases h:l.length = 20
 ·rw [if_pos (by simp; omega)]; simp [h]
 ·rw [if_neg (by simp; omega),aU,aU,List.length_map,List.length_map,hn]
  simp only [h,decide_false,Bool.false_or]
  rw [Bool.eq_iff_iff]
  simp only [xg]
  omega
def matS (next:Int) (c:Cm) (cl:List Od × Int × List Ev):Int :=
 if c.t = 5∧0 < cl.2.2.length then 11 else if c.t = 4∧0 < cl.2.1 then 12 else if next = 1000000 then 13
 else if aW c.t = true then (if 0 < cl.2.1 then (if cl.1.length = 20 then 13 else if 8 < nlev (cl.1 ++ [⟨next,c.s,tkS c.p,cl.2.1,c.l,c.g⟩]) then 13 else 0) else 0) else 0
theorem matS_eq {next:Int} {c:Cm} {l:List Od} (hg:GoodL l) (uS:∀ x ∈ l,x.side = 1 ∨ x.side = 2) (hs:betB c.s 1 2 = true) (hp:prcB c = true) (hq:betB c.q 1 1000000 = true):matS next c (matL c next 21 l c.q []) = matR next c (matL c next 21 l c.q []):=by
 have hq':1 ≤ c.q∧c.q ≤ 1000000:=by simpa [betB] using hq
 have hgood:=matL_good (c:=c) (id:=next) 21 l c.q [] hg (by omega) (by omega)
 have hside:=matL_side (c:=c) (id:=next) 21 l c.q [] hg.rise hg (by omega) (by omega) uS
 generalize matL c next 21 l c.q [] = cl at *
 unfold matS matR
 by_cases N:c.t = 5∧0 < cl.2.2.length
 ·rw [if_pos N,if_pos N]
 rw [if_neg N,if_neg N]
 by_cases Y:c.t = 4∧0 < cl.2.1
 ·rw [if_pos Y,if_pos Y]
 rw [if_neg Y,if_neg Y]
 by_cases h3:next = 1000000
 ·rw [if_pos h3,if_pos h3]
 rw [if_neg h3,if_neg h3]
 by_cases h4:aW c.t = true
 ·by_cases h5:0 < cl.2.1
  ·rw [if_pos h4,if_pos h5,if_pos (show aW c.t = true∧0 < cl.2.1 from ⟨h4,h5⟩)]
   have oL:c.t ≠ 2:=by
    intro e; rw [e] at h4; exact absurd h4 (by decide)
   have vu:tkOk c.p = true:=by unfold prcB at hp; rw [if_neg oL] at hp; exact hp
   have Z:({ ordO c next with left:=cl.2.1 }:Od) = ⟨next,c.s,tkS c.p,cl.2.1,c.l,c.g⟩:=by
    unfold ordO; rw [tkS_ok vu]
   rw [Z]
   have hfe:=full_eq (l:=cl.1) (t:=⟨next,c.s,tkS c.p,cl.2.1,c.l,c.g⟩) hgood.1.len (fun x hx=>by
    rcases List.mem_append.1 hx with h | h
    ·exact hside x h
    ·simp at h; subst h; exact side_of hs)
   rw [hfe]
   unfold fullS
   by_cases h6:cl.1.length = 20
   ·simp [h6]
   ·by_cases h7:8 < nlev (cl.1 ++ [⟨next,c.s,tkS c.p,cl.2.1,c.l,c.g⟩])
    ·simp [h6,h7]
    ·simp [h6,h7]
  ·rw [if_pos h4,if_neg h5,if_neg (by simp [h5])]
 ·rw [if_neg h4,if_neg (by simp [h4])]
def refS (next:Int) (l:List Od) (c:Cm):Int :=
 if betB c.k 1 4 = false then 1 else if aY c = false then 2 else if c.k = 1 then newR next l c else if c.k = 4 then 0
 else if c.k = 3∧betB c.q 1 1000000 = false then 7 else if plc l c.i < 0 then 9
 else match l[(plc l c.i).toNat]? with | some o=>if c.k = 3∧o.left ≤ c.q then 10 else 0 | none=>0
theorem same_form {k s t l q i:Int} {p:Nat} {g:ByteArray} (hk:k = 1 ∨ k = 2 ∨ k = 3 ∨ k = 4):aY ⟨k,s,t,l,q,i,p,g⟩ = (if k = 1 then aT ⟨1,s,t,l,q,0,p,g⟩ ⟨k,s,t,l,q,i,p,g⟩ else if k = 2 then aT ⟨2,0,0,0,0,i,0,⟨#[]⟩⟩ ⟨k,s,t,l,q,i,p,g⟩ else if k = 3 then aT ⟨3,0,0,0,q,i,0,⟨#[]⟩⟩ ⟨k,s,t,l,q,i,p,g⟩ else aT ⟨4,0,0,0,0,0,0,⟨#[]⟩⟩ ⟨k,s,t,l,q,i,p,g⟩):=by
 have hz:fbit 0 = 0:=by decide
 have he:(⟨#[]⟩:ByteArray).toList = []:=by unfold ByteArray.toList; rw [ByteArray.toList.loop]; rfl
 have hg:∀ x:List UInt8,decide ([] = x) = x.isEmpty:=by intro x; cases x <;> rfl
 rw [Bool.eq_iff_iff]
 rcases hk with rfl | rfl | rfl | rfl
 ·simp [aY,aT]; omega
 ·simp [aY,aT,hz,he]
  constructor
  ·rintro ⟨⟨N,Y,h3,h4,h5⟩,h6⟩
   exact ⟨N.symm,Y.symm,h3.symm,h6.symm,h4.symm,h5⟩
  ·rintro ⟨N,Y,h3,h6,h4,h5⟩
   exact ⟨⟨N.symm,Y.symm,h3.symm,h4.symm,h5⟩,h6.symm⟩
 ·simp [aY,aT,hz,he]
  constructor
  ·rintro ⟨N,Y,h3,h4,h5⟩
   exact ⟨N.symm,Y.symm,h3.symm,h4.symm,h5⟩
  ·rintro ⟨N,Y,h3,h4,h5⟩
   exact ⟨N.symm,Y.symm,h3.symm,h4.symm,h5⟩
 ·simp [aY,aT,hz,he]
  constructor
  ·rintro ⟨⟨N,Y,h3,h4,h5⟩,h6,h7⟩
   exact ⟨N.symm,Y.symm,h3.symm,h6.symm,h7.symm,h4.symm,h5⟩
  ·rintro ⟨N,Y,h3,h6,h7,h4,h5⟩
   exact ⟨⟨N.symm,Y.symm,h3.symm,h4.symm,h5⟩,h6.symm,h7.symm⟩
theorem ref_eq (next:Int) (l:List Od) (c:Cm):refS next l c = refR next l c:=by
 obtain ⟨k,s,t,li,q,i,p,g⟩:=c
 by_cases hk:k = 1 ∨ k = 2 ∨ k = 3 ∨ k = 4
 ·have E:betB k 1 4 = true:=by simp [betB]; omega
  have hf:=same_form (s:=s) (t:=t) (l:=li) (q:=q) (i:=i) (p:=p) (g:=g) hk
  unfold refS refR
  simp only [E,hf]
  rcases hk with rfl | rfl | rfl | rfl
  ·simp
   cases aT ⟨1,s,t,li,q,0,p,g⟩ ⟨1,s,t,li,q,i,p,g⟩ <;> simp
  ·simp
   cases aT ⟨2,0,0,0,0,i,0,⟨#[]⟩⟩ ⟨2,s,t,li,q,i,p,g⟩ <;> simp [idR]
   rcases plc_cases l i with e | ⟨k,o,e,Z⟩
   ·rw [e]; rfl
   ·rw [e]; simp [Z]
  ·simp
   cases aT ⟨3,0,0,0,q,i,0,⟨#[]⟩⟩ ⟨3,s,t,li,q,i,p,g⟩ <;> simp [redR]
   cases betB q 1 1000000 <;> simp
   rcases plc_cases l i with e | ⟨k,o,e,Z⟩
   ·rw [e]; rfl
   ·rw [e]; simp [Z]
  ·simp
   cases aT ⟨4,0,0,0,0,0,0,⟨#[]⟩⟩ ⟨4,s,t,li,q,i,p,g⟩ <;> simp
 ·have E:betB k 1 4 = false:=by
   cases h:betB k 1 4
   ·rfl
   ·simp [betB] at h; omega
  unfold refS refR
  simp only [E]
  simp
  rw [if_neg (by omega),if_neg (by omega),if_neg (by omega),if_neg (by omega)]
end Go.Proofs.YtnphbkgfjanmgaaGreatDoor
