/-
  A group behind some events, by the program: proved by walking the function.
-/
import Derived.Test.YthhkapcbocgcoaaGreatDoorGj39
set_option linter.unusedVariables false
set_option maxHeartbeats 6400000
set_option maxRecDepth 100000
namespace Go.Proofs.YthhkapcbocgcoaaGreatDoor
open Go.RowKit
theorem gs_base {G B B' r:Nat} {W:World} {vq:Value} {g:Gr} (h:GS G B r W vq g) (hB:B' ≤ B):GS G B' r W vq g :=
 ⟨h.box,dE h.row hB,h.typ,h.mp,yO hB h.hG,yO hB h.hr⟩
theorem runG_stop {g:Gr} {e:Ev} {r:List Ev} (h:zD g e ≠ 0):runG g (e :: r) = (g,zD g e):=by rw [runG,if_neg h]
theorem runG_go {g:Gr} {e:Ev} {r:List Ev} (h:zD g e = 0):runG g (e :: r) = runG (bV g e) r:=by rw [runG,if_pos h]
def BehE (B:Nat) (w:World) (hR:Gr × Int) (x:Ending) (w':World):Prop:=∃ G,x = .returned (.tuple #[I G 0,H hR.2])∧Below B w w'∧(hR.2 = 0→∃ r vq,GS G B r w' vq hR.1∧GI hR.1)
theorem drop_ev {l:List Ev} {k:Nat} {c:Ev} (h:l[k]? = some c):l.drop k = c :: l.drop (k + 1):=by
 obtain ⟨Q,rfl⟩:=yH.1 h
 exact xd Q
theorem gH (next:Int) (vb:Value) (l:List Od) (v:Value) (es:List Ev) (w:World) (hr:RdR Od.vs 6 w vb l) (hs:SlOk vb) (hi:GI (gr0 next l)) (he:RdR Ev.vs 14 w v es) (un:∀ e ∈ es,okE e = true) (bN:∀ e ∈ es,e.cmd.g.size ≤ maxLen) :
  Calls Tryz.prog 19 #[.agg #[H next,vb],v] w fun x w'=>BehE w.heap.size w (runG (gr0 next l) es) x w':=by
 have hsf:=sfl
 have HCE:Hid (∀ G k w',k = (runG (gr0 next l) es).2→yn w w'→((runG (gr0 next l) es).2 = 0→∃ r vq,GS G w.heap.size r w' vq (runG (gr0 next l) es).1∧GI (runG (gr0 next l) es).1)→BehE w.heap.size w (runG (gr0 next l) es) (.returned (.tuple #[I G 0,H k])) w'):=fun G k w' Q D X=>⟨G,by rw [Q],D,X⟩
 have HF0:Hid (runG (gr0 next l) es = runG (gr0 next l) es):=rfl
 generalize BehE w.heap.size w (runG (gr0 next l) es) = C at HCE ⊢
 generalize hF:runG (gr0 next l) es = hR at HCE
 have HF:=M hF
 clear hF HF0
 have xR:=gZ w (O #[H next,vb] 27)
 have hrd0:=zh hr xR hU
 have HEW:=M he
 have vk:=M (fun W (h:RdR Od.vs 6 W vb l)=>beginGroup_any next vb l W h hs (yO hi.len (by decide)))
 have pd:=M hrd0
 have HI:=M hi
 have pC:=M un
 have HSZ:=M bN
 have xZ:=M xR
 have HZ0:Hid ((w.alloc (O #[H next,vb] 27)).heap.size = w.heap.size + 1):=by show _ = _; simp
 have bD:=M (zy w [H next,vb] 27)
 obtain ⟨a,cap,rfl,xD,hc⟩:=he
 clear hr hs hi un bN xR hrd0 hc
 go_enter Tryz.func19,Tryz.ntmps19
 refine ic fun xh HK=>?_
 go_wp2_with fail
 refine U HK _ _ ?_
 clear HK
 generalize (w.alloc (O #[H next,vb] 27)) = W1 at pd xZ HZ0 bD ⊢
 have x0:=zb (U bD) 0 rfl
 have x1:=zb (U bD) 1 rfl
 go_wp2_with fail
 refine (U vk W1 (U pd)).mono ?_
 rintro e w2 ⟨G,r,vq,rfl,ug,xP⟩
 have hz:=U HZ0
 have uo:Hid (GS G w.heap.size r w2 vq (gr0 next l)):=gs_base ug (by omega)
 have xt:=M (ia (U xZ) xP)
 clear ug xP x0 x1 hz vk pd bD xZ HZ0
 go_wp2_with fail
 go_loopw [14] (fun iv wr=>∃ (k:Nat) (g:Gr) (vq:Value),k ≤ es.length∧iv = H k∧Hid (GS G w.heap.size r wr vq g)∧Hid (GI g)∧Hid (hR = runG g (es.drop k))∧Hid (yn w wr)) (fun iv _=>es.length - (intOf iv).toNat)
 case atStart=>exact ⟨0,gr0 next l,vq,Nat.zero_le _,rfl,uo,HI,(U HF).symm,xt⟩
 case round =>
  obtain ⟨k,g,vq,E,rfl,HG,HIG,ux,HB⟩:=hrel
  have HE:=M (zh (U HEW) (U HB) hU)
  by_cases xM:k < es.length
  ·obtain ⟨e,pO⟩:∃ e,es[k]? = some e:=⟨_,yI xM⟩
   have uc:=M (U ux)
   rw [drop_ev pO] at uc
   have uC:=yP pO
   have HOE:=M (U pC e uC)
   have vO:=M (U HSZ e uC)
   obtain ⟨a2,cap2,e2,-,hc2⟩:=U HE
   simp only [Value.slice.injEq,true_and] at e2
   obtain ⟨rfl,rfl⟩:=e2
   obtain ⟨b,off,rfl,oD,ua⟩:=hc2 (by intro h; rw [h] at xM; simp at xM)
   have xo:=ua k e pO
   have vj:(k:Int) < es.length:=by omega
   have qv:=gZ wr (Obj.cells e.vs.toArray 37)
   have jm:=M (add_any e (wr.alloc (Obj.cells e.vs.toArray 37)) (zx (U HG) qv) (U HIG) (U HOE) (U vO))
   have vG:=M (ia (U HB) qv)
   have HGI2:Hid (zD g e = 0→GI (bV g e)):=fun h=>gi_step (U HIG) (U HOE) h
   unfold AddE at jm
   have vH:Hid (zD g e ≠ 0→hR = (g,zD g e)):=fun h=>(U uc).trans (runG_stop h)
   have HGO:Hid (zD g e = 0→hR = runG (bV g e) (es.drop (k + 1))):=fun h=>(U uc).trans (runG_go h)
   generalize zD g e = ru at jm HGI2 vH HGO
   generalize bV g e = g2 at jm HGI2 HGO
   obtain ⟨xn,⟨ck,cs,ct,cl,cq,ci,cp,cg⟩,id,xl,qty,xm,xk⟩:=e
   unfold evV Ev.vs at jm
   unfold Ev.vs at vG
   simp only at jm vG
   have x0:wr.cell? (J b (off + k * 14)) = _:=xo 0 _ rfl
   have x1:=xo 1 _ rfl
   have x2:=xo 2 _ rfl
   have x3:=xo 3 _ rfl
   have x4:=xo 4 _ rfl
   have x5:=xo 5 _ rfl
   have x6:=xo 6 _ rfl
   have x7:=xo 7 _ rfl
   have x8:=xo 8 _ rfl
   have x9:=xo 9 _ rfl
   have x10:=xo 10 _ rfl
   have x11:=xo 11 _ rfl
   have x12:=xo 12 _ rfl
   have x13:=xo 13 _ rfl
   clear xo ua pO uC qv hc2 uc
   go_wp2_with fail
   refine (U jm).mono ?_
   rintro x w3 ⟨rfl,xQ,jZ⟩
   have xG:=M ((U vG).trans xQ)
   have ji:=M jZ
   clear xQ jZ jm vG x0 x1 x2 x3 x4 x5 x6 x7 x8 x9 x10 x11 x12 x13
   by_cases h0:ru = 0
   ·have b0:(ru != 0) = false:=by simpa using h0
    obtain ⟨vq2,uF⟩:=U ji h0
    have uS:=M uF
    have uk:=M (U HGI2 h0)
    have uu:=M (U HGO h0)
    clear h0 uF vH HGO HGI2 ji
    go_wp2_with fail
    go_roundw
    case rel=>exact ⟨k + 1,g2,vq2,by omega,by go_num,uS,uk,uu,xG⟩
    case measure=>simp [intOf]; omega
   ·have b0:(ru != 0) = true:=by simpa using h0
    have HQ:=M (U vH h0)
    have HN0:=M h0
    clear h0 vH HGO HGI2 ji
    go_wp2_with fail
    exact U HCE G ru _ (by rw [U HQ]) (U xG) (fun h=>absurd (by rw [U HQ] at h; exact h) (U HN0))
  ·have bK:k = es.length:=by omega
   have HQ:=M (U ux)
   rw [bK,List.drop_length,runG] at HQ
   go_wp2_with fail
   exact U HCE G 0 _ (by rw [U HQ]) (U HB) (fun _=>⟨r,vq,by rw [U HQ]; exact U HG,by rw [U HQ]; exact U HIG⟩)
theorem db (n a b:Int) (w:World) :
  Calls Tryz.prog 31 #[H n,H a,H b] w fun e w'=>e = .returned (.bool (betB n a b))∧w' = w:=by
 go_enter Tryz.func31,Tryz.ntmps31
 go_wp2
 all_goals go_ret
 all_goals exact ⟨zo (by rw [Bool.eq_iff_iff]; simp [betB]; omega),rfl⟩
theorem l03Tag_any (s:ByteArray) (w:World) (hs:s.size ≤ maxLen) :
  Calls Tryz.prog 65 #[yk s] w fun e w'=>e = .returned (.bool (tagB s))∧w' = w:=by
 unfold maxLen at hs
 by_cases hl:s.size ≤ 12
 ·have hl':¬ ((12:Int) < s.size):=by omega
  go_enter Tryz.func65,Tryz.ntmps65
  go_wp2_with fail
  go_loop [3] (fun i=>∃ k:Nat,k ≤ s.size∧i = H k∧Hid (s.data.toList.all tagC = (s.data.toList.drop k).all tagC)) (fun i=>s.size - (intOf i).toNat)
  case atStart=>exact ⟨0,Nat.zero_le _,rfl,by simp [Hid]⟩
  case round =>
   obtain ⟨k,E,rfl,K⟩:=hrel
   by_cases xM:k < s.size
   ·have vj:(k:Int) < s.size:=by omega
    have vR:=drop_cons s k xM
    have hw:betB (s[k].toNat:Int) 32 126 = tagC s[k]:=rfl
    cases ht:tagC s[k]
    ·have HT:Hid (s.data.toList.all tagC = false):=by
      have:=U K
      rw [vR,List.all_cons,ht,Bool.false_and] at this
      exact this
     rw [ht] at hw
     have hor:(s[k].toNat:Int) < 32 ∨ (32 ≤ (s[k].toNat:Int)∧(126:Int) < s[k].toNat):=by
      simp [betB] at hw; omega
     clear vR ht hw
     rcases hor with h32 | ⟨h32,h126⟩
     ·have hd:decide ((s[k].toNat:Int) < 32) = true:=by simpa using h32
      go_wp2_with fail
      go_ret
      exact ⟨zo (tag_no s (U HT)).symm,rfl⟩
     ·have hd:decide ((s[k].toNat:Int) < 32) = false:=by simpa using h32
      go_wp2_with fail
      go_ret
      exact ⟨zo (tag_no s (U HT)).symm,rfl⟩
    ·have HN:Hid (s.data.toList.all tagC = (s.data.toList.drop (k + 1)).all tagC):=by
      have:=U K
      rw [vR,List.all_cons,ht,Bool.true_and] at this
      exact this
     rw [ht] at hw
     have hor:32 ≤ (s[k].toNat:Int)∧(s[k].toNat:Int) ≤ 126:=by
      simp [betB] at hw; omega
     obtain ⟨h32,h126⟩:=hor
     have hd:decide ((s[k].toNat:Int) < 32) = false:=by simpa using h32
     have hd2:¬ ((126:Int) < s[k].toNat):=by omega
     clear vR ht hw
     go_wp2_with fail
     go_round
     case rel=>exact ⟨k + 1,by omega,by go_num,U HN⟩
     case measure=>simp [intOf]; omega
   ·go_wp2_with fail
    go_ret
    have h:=U K
    rw [xb (by rw [data_len]; omega)] at h
    exact ⟨zo (tag_yes s hl (by rw [h]; rfl)).symm,rfl⟩
 ·have hl':(12:Int) < s.size:=by omega
  go_enter Tryz.func65,Tryz.ntmps65
  go_wp2_with fail
  go_ret
  exact ⟨zo (tag_long s hl).symm,rfl⟩
theorem l03Order_any (o:Od) (w:World) (hs:o.tag.size ≤ maxLen) :
  Calls Tryz.prog 32 #[.agg (yw o.id o.side o.ticks o.left o.life o.tag).toArray] w fun e w'=>e = .returned (.bool (ordB o))∧yn w w':=by
 have HT:=M (fun W=>l03Tag_any o.tag W hs)
 clear hs
 cases Q:betB o.side 1 2
 ·go_enter Tryz.func32,Tryz.ntmps32
  go_wp2_with (first | (go_at_call 65; refine (U HT _).mono ?_; rintro e w' ⟨rfl,rfl⟩) | (go_at_call 31; refine (db _ _ _ _).mono ?_; rintro e w' ⟨rfl,rfl⟩))
  go_ret
  exact ⟨zo (by simp [ordB,Q]),by go_grown⟩
 ·
  cases h4:betB o.ticks 1 1000000
  ·go_enter Tryz.func32,Tryz.ntmps32
   go_wp2_with (first | (go_at_call 65; refine (U HT _).mono ?_; rintro e w' ⟨rfl,rfl⟩) | (go_at_call 31; refine (db _ _ _ _).mono ?_; rintro e w' ⟨rfl,rfl⟩))
   go_ret
   exact ⟨zo (by simp [ordB,Q,h4]),by go_grown⟩
  ·
   cases h5:betB o.left 1 1000000
   ·go_enter Tryz.func32,Tryz.ntmps32
    go_wp2_with (first | (go_at_call 65; refine (U HT _).mono ?_; rintro e w' ⟨rfl,rfl⟩) | (go_at_call 31; refine (db _ _ _ _).mono ?_; rintro e w' ⟨rfl,rfl⟩))
    go_ret
    exact ⟨zo (by simp [ordB,Q,h4,h5]),by go_grown⟩
   ·
    cases D:betB o.life 0 1
    ·go_enter Tryz.func32,Tryz.ntmps32
     go_wp2_with (first | (go_at_call 65; refine (U HT _).mono ?_; rintro e w' ⟨rfl,rfl⟩) | (go_at_call 31; refine (db _ _ _ _).mono ?_; rintro e w' ⟨rfl,rfl⟩))
     go_ret
     exact ⟨zo (by simp [ordB,Q,h4,h5,D]),by go_grown⟩
    ·
     cases X:tagB o.tag
     ·go_enter Tryz.func32,Tryz.ntmps32
      go_wp2_with (first | (go_at_call 65; refine (U HT _).mono ?_; rintro e w' ⟨rfl,rfl⟩) | (go_at_call 31; refine (db _ _ _ _).mono ?_; rintro e w' ⟨rfl,rfl⟩))
      go_ret
      exact ⟨zo (by simp [ordB,Q,h4,h5,D,X]),by go_grown⟩
     ·go_enter Tryz.func32,Tryz.ntmps32
      go_wp2_with (first | (go_at_call 65; refine (U HT _).mono ?_; rintro e w' ⟨rfl,rfl⟩) | (go_at_call 31; refine (db _ _ _ _).mono ?_; rintro e w' ⟨rfl,rfl⟩))
      go_ret
      exact ⟨zo (by simp [ordB,Q,h4,h5,D,X]),by go_grown⟩
theorem l03Levels_any (v:Value) (l:List Od) (w:World) (hr:RdR Od.vs 6 w v l) (hn:l.length ≤ 1000) :
  Calls Tryz.prog 33 #[v] w fun e w'=>e = .returned (H (nlev l:Nat))∧w.grownBy w' none:=by
 obtain ⟨a,cap,rfl,xD,hc⟩:=hr
 have xr:∀ (k:Nat) (c:Od),l[k]? = some c→∃ b off,a = some (J b off)∧b < w.heap.size∧w.rangeAt b (off + k * 6) c.vs:=by
  intro k c E
  obtain ⟨b,off,Q,D,X⟩:=hc (by intro h; rw [h] at E; simp at E)
  exact ⟨b,off,Q,D,X k c E⟩
 have HC:=M xr
 clear xr hc
 go_enter Tryz.func33,Tryz.ntmps33
 go_wp2_with fail
 go_loopw [3,4] (fun nv iv wr=>∃ (i n:Nat),nv = H n∧i ≤ l.length∧iv = H i∧Hid (n = nlev (l.take i))∧n ≤ i∧w.grownBy wr none) (fun _ iv _=>l.length - (intOf iv).toNat)
 case atStart=>exact ⟨0,0,rfl,Nat.zero_le _,rfl,by simp [Hid,nlev,nlevR],Nat.le_refl _,yS _ _⟩
 case round =>
  obtain ⟨i,n,rfl,hi,rfl,hnl,hni,hg⟩:=hrel
  have HG:=M hg
  clear hg
  by_cases xM:i < l.length
  ·obtain ⟨c,uV⟩:∃ c,l[i]? = some c:=⟨_,yI xM⟩
   obtain ⟨b,off,rfl,A,xo⟩:=U HC i c uV
   have kY:=M uV
   have kH:=M xo
   have vj:(i:Int) < l.length:=by omega
   have HNN:Hid (nlev (l.take (i + 1)) = n + (dQ c (l.take i)).toNat):=by
    show _ = _
    rw [takeR l i c uV,nlev_fresh,← U hnl]
   clear uV xo hnl
   go_wp2_with fail
   go_loopw [5,6] (fun fv kv wq=>∃ (k:Nat) (fb:Bool),fv = .bool fb∧k ≤ i∧kv = H k∧Hid (fb = dQ c (l.take k))∧w.grownBy wq none) (fun _ kv _=>i - (intOf kv).toNat)
   case atStart=>exact ⟨0,true,rfl,Nat.zero_le _,rfl,rfl,U HG⟩
   case round =>
    obtain ⟨k,fb,rfl,E,rfl,oS,hg⟩:=hrel
    have HGQ:=M hg
    clear hg
    by_cases hki:k < i
    ·obtain ⟨y,hky⟩:∃ y,l[k]? = some y:=⟨_,yI (by omega)⟩
     obtain ⟨b',jQ,jL,hb',qQ⟩:=U HC k y hky
     simp only [Option.some.injEq,Addr.mk.injEq,and_true] at jL
     obtain ⟨rfl,rfl⟩:=jL
     have HFN:Hid (dQ c (l.take (k + 1)) = (fb && difB c y)):=by
      show _ = _
      rw [takeR l k y hky,U oS,dQ,List.all_append]; simp [dQ]
     obtain ⟨-,e1,e2,-⟩:=zC (zv (U kH) (U HGQ) A (by simp))
     obtain ⟨-,d1,d2,-⟩:=zC (zv qQ (U HGQ) A (by simp))
     have hki':(k:Int) < i:=by omega
     have hkl':(k:Int) < l.length:=by omega
     have vU:∀ (fb':Bool),fb' = (fb && difB c y)→Hid (fb' = dQ c (l.take (k + 1))):=fun fb' h=>by show _ = _; rw [h,U HFN]
     have jp:=M vU
     clear hky qQ vU
     cases fb
     ·go_wp2_with fail
      go_quiet (fail)
      go_wp2_with fail
      go_roundw
      case rel=>exact ⟨k + 1,false,rfl,by omega,by go_num,U jp _ rfl,ef (U HGQ) rfl rfl rfl rfl⟩
      case measure=>simp [intOf]; omega
     ·by_cases Q:y.side = c.side
      ·have aM:(y.side != c.side) = false:=by simpa using Q
       by_cases D:y.ticks = c.ticks
       ·have hd:(true && difB c y) = false:=by simp [difB,Q,D]
        go_wp2_with fail
        go_quiet (fail)
        go_wp2_with fail
        go_roundw
        case rel=>exact ⟨k + 1,false,by first | rfl | simp [D],by omega,by go_num,U jp _ hd.symm,ef (U HGQ) rfl rfl rfl rfl⟩
        case measure=>simp [intOf]; omega
       ·have hd:(true && difB c y) = true:=by simp [difB,D]
        go_wp2_with fail
        go_quiet (fail)
        go_wp2_with fail
        go_roundw
        case rel=>exact ⟨k + 1,true,by first | rfl | simp [D],by omega,by go_num,U jp _ hd.symm,ef (U HGQ) rfl rfl rfl rfl⟩
        case measure=>simp [intOf]; omega
      ·have aM:(y.side != c.side) = true:=by simpa using Q
       have hd:(true && difB c y) = true:=by simp [difB,Q]
       go_wp2_with fail
       go_quiet (fail)
       go_wp2_with fail
       go_roundw
       case rel=>exact ⟨k + 1,true,by first | rfl | simp,by omega,by go_num,U jp _ hd.symm,ef (U HGQ) rfl rfl rfl rfl⟩
       case measure=>simp [intOf]; omega
    ·obtain rfl:k = i:=by omega
     have HF:=oS
     cases fb
     ·have HE:Hid (nlev (l.take (k + 1)) = n):=by show _ = _; rw [U HNN,← U HF]; rfl
      clear oS
      go_wp2_with fail
      exact ⟨⟨k + 1,n,rfl,by omega,by go_num,(U HE).symm,by omega,U HGQ⟩,by simp [intOf]; omega⟩
     ·have HE:Hid (nlev (l.take (k + 1)) = n + 1):=by show _ = _; rw [U HNN,← U HF]; rfl
      clear oS
      go_wp2_with fail
      exact ⟨⟨k + 1,n + 1,by go_num,by omega,by go_num,(U HE).symm,by omega,U HGQ⟩,by simp [intOf]; omega⟩
  ·go_wp2_with fail
   go_ret
   have h:=U hnl
   rw [xa (by omega)] at h
   subst h
   exact ⟨rfl,U HG⟩
end Go.Proofs.YthhkapcbocgcoaaGreatDoor
