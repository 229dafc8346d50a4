/-
  How many levels orders have, as the model counts them: proved by walking the function. (what walks the functions of the model or of the laws)
-/
import Derived.Test.YtbakanofkghmiaaGreatPj36
set_option linter.unusedVariables false
set_option maxHeartbeats 6400000
set_option maxRecDepth 100000
namespace Go.Proofs.YtbakanofkghmiaaGreat
open Go.RowKit
theorem l03Levels_any (v:Value) (l:List Od) (w:World) (hr:RdR Od.vs 6 w v l) (hn:l.length ≤ 1000) :
  Calls Tryz.prog 82 #[v] w fun e w'=>e = .returned (H (nlev l:Nat))∧w.grownBy w' none:=by
 obtain ⟨a,F,rfl,xD,hc⟩:=hr
 have xn:∀ (k:Nat) (c:Od),l[k]? = some c→∃ b off,a = some (J b off)∧b < w.heap.size∧w.rangeAt b (off + k * 6) c.vs:=by
  intro k c hk
  obtain ⟨b,off,z,K,h3⟩:=hc (by intro h; rw [h] at hk; simp at hk)
  exact ⟨b,off,z,K,h3 k c hk⟩
 have HC:=Q xn
 clear xn hc
 go_enter Tryz.func82,Tryz.ntmps82
 go_wp2_with fail
 go_loopw [3,4] (fun nv iv wr=>∃ (i n:Nat),nv = H n∧i ≤ l.length∧iv = H i∧Hid (n = nlev (l.take i))∧n ≤ i∧w.grownBy wr none) (fun _ iv _=>l.length - (intOf iv).toNat)
 case atStart=>exact ⟨0,0,rfl,Nat.zero_le _,rfl,by simp [Hid,nlev,nlevR],Nat.le_refl _,yO _ _⟩
 case round =>
  obtain ⟨i,n,rfl,hi,rfl,hnl,hni,hg⟩:=hrel
  have HG:=Q hg
  clear hg
  by_cases xL:i < l.length
  ·obtain ⟨c,uC⟩:∃ c,l[i]? = some c:=⟨_,yE xL⟩
   obtain ⟨b,off,rfl,hb,xk⟩:=M HC i c uC
   have qW:=Q uC
   have HCL:=Q xk
   have uO:(i:Int) < l.length:=by omega
   have HNN:Hid (nlev (l.take (i + 1)) = n + (bR c (l.take i)).toNat):=by
    show _ = _
    rw [takeR l i c uC,nlev_fresh,← M hnl]
   clear uC xk hnl
   go_wp2_with fail
   go_loopw [5,6] (fun fv kv wq=>∃ (k:Nat) (fb:Bool),fv = .bool fb∧k ≤ i∧kv = H k∧Hid (fb = bR c (l.take k))∧w.grownBy wq none) (fun _ kv _=>i - (intOf kv).toNat)
   case atStart=>exact ⟨0,true,rfl,Nat.zero_le _,rfl,rfl,M HG⟩
   case round =>
    obtain ⟨k,fb,rfl,hk,rfl,ah,hg⟩:=hrel
    have HGQ:=Q hg
    clear hg
    by_cases hki:k < i
    ·obtain ⟨y,hky⟩:∃ y,l[k]? = some y:=⟨_,yE (by omega)⟩
     obtain ⟨b',vH,ji,oP,vS⟩:=M HC k y hky
     simp only [Option.some.injEq,Addr.mk.injEq,and_true] at ji
     obtain ⟨rfl,rfl⟩:=ji
     have HFN:Hid (bR c (l.take (k + 1)) = (fb && difB c y)):=by
      show _ = _
      rw [takeR l k y hky,M ah,bR,List.all_append]; simp [bR]
     obtain ⟨-,e1,e2,-⟩:=zx (zm (M HCL) (M HGQ) hb (by simp))
     obtain ⟨-,d1,d2,-⟩:=zx (zm vS (M HGQ) hb (by simp))
     have hki':(k:Int) < i:=by omega
     have hkl':(k:Int) < l.length:=by omega
     have uX:∀ (fb':Bool),fb' = (fb && difB c y)→Hid (fb' = bR c (l.take (k + 1))):=fun fb' h=>by show _ = _; rw [h,M HFN]
     have vd:=Q uX
     clear hky vS uX
     cases fb
     ·go_wp2_with fail
      go_quiet (fail)
      go_wp2_with fail
      go_roundw
      case rel=>exact ⟨k + 1,false,rfl,by omega,by go_num,M vd _ rfl,bY (M HGQ) rfl rfl rfl rfl⟩
      case measure=>simp [intOf]; omega
     ·by_cases z:y.side = c.side
      ·have pv:(y.side != c.side) = false:=by simpa using z
       by_cases K:y.ticks = c.ticks
       ·have hd:(true && difB c y) = false:=by simp [difB,z,K]
        go_wp2_with fail
        go_quiet (fail)
        go_wp2_with fail
        go_roundw
        case rel=>exact ⟨k + 1,false,by first | rfl | simp [K],by omega,by go_num,M vd _ hd.symm,bY (M HGQ) rfl rfl rfl rfl⟩
        case measure=>simp [intOf]; omega
       ·have hd:(true && difB c y) = true:=by simp [difB,K]
        go_wp2_with fail
        go_quiet (fail)
        go_wp2_with fail
        go_roundw
        case rel=>exact ⟨k + 1,true,by first | rfl | simp [K],by omega,by go_num,M vd _ hd.symm,bY (M HGQ) rfl rfl rfl rfl⟩
        case measure=>simp [intOf]; omega
      ·have pv:(y.side != c.side) = true:=by simpa using z
       have hd:(true && difB c y) = true:=by simp [difB,z]
       go_wp2_with fail
       go_quiet (fail)
       go_wp2_with fail
       go_roundw
       case rel=>exact ⟨k + 1,true,by first | rfl | simp,by omega,by go_num,M vd _ hd.symm,bY (M HGQ) rfl rfl rfl rfl⟩
       case measure=>simp [intOf]; omega
    ·obtain rfl:k = i:=by omega
     have HF:=ah
     cases fb
     ·have HE:Hid (nlev (l.take (k + 1)) = n):=by show _ = _; rw [M HNN,← M HF]; rfl
      clear ah
      go_wp2_with fail
      exact ⟨⟨k + 1,n,rfl,by omega,by go_num,(M HE).symm,by omega,M HGQ⟩,by simp [intOf]; omega⟩
     ·have HE:Hid (nlev (l.take (k + 1)) = n + 1):=by show _ = _; rw [M HNN,← M HF]; rfl
      clear ah
      go_wp2_with fail
      exact ⟨⟨k + 1,n + 1,by go_num,by omega,by go_num,(M HE).symm,by omega,M HGQ⟩,by simp [intOf]; omega⟩
  ·go_wp2_with fail
   go_ret
   have h:=M hnl
   rw [yW (by omega)] at h
   subst h
   exact ⟨rfl,M HG⟩
theorem specBookOK_any (next:Int) (v:Value) (l:List Od) (w:World) (hr:RdR Od.vs 6 w v l) (hg:∀ c ∈ l,c.tag.size ≤ maxLen) :
  Calls Tryz.prog 43 #[.agg #[H next,v]] w fun e w'=>e = .returned (.bool (okS next l))∧yl w w':=by
 have HR:=Q hr
 have HGG:=Q hg
 obtain ⟨a,F,rfl,xD,hc⟩:=hr
 have xn:∀ (k:Nat) (c:Od),l[k]? = some c→∃ b off,a = some (J b off)∧b < w.heap.size∧w.rangeAt b (off + k * 6) c.vs:=by
  intro k c hk
  obtain ⟨b,off,z,K,h3⟩:=hc (by intro h; rw [h] at hk; simp at hk)
  exact ⟨b,off,z,K,h3 k c hk⟩
 have HC:=Q xn
 clear xn hc hg
 have ua:Hid (yl w (w.alloc (E #[H next,.slice a l.length F] 28))):=eD _ _
 have vF:=zg w [H next,.slice a l.length F] 28
 have HX:Hid (World.rangeAt (w.alloc (E #[H next,.slice a l.length F] 28)) w.heap.size 0 [H next,.slice a l.length F]∧w.heap.size < (w.alloc (E #[H next,.slice a l.length F] 28)).heap.size):=⟨vF,by rw [ze]; omega⟩
 clear vF
 cases z:betB next 1 1000000
 ·go_enter Tryz.func43,Tryz.ntmps43
  go_wp2_with fail
  refine (ba next 1 1000000 _).mono ?_
  rintro e w1 ⟨rfl,rfl⟩
  go_wp2_with fail
  go_ret
  exact ⟨zl (by simp [okS,z]),M ua⟩
 by_cases K:l.length ≤ 20
 rotate_left
 ·have kj:(20:Int) < l.length:=by omega
  go_enter Tryz.func43,Tryz.ntmps43
  go_wp2_with fail
  refine (ba next 1 1000000 _).mono ?_
  rintro e w1 ⟨rfl,rfl⟩
  go_wp2_with fail
  go_ret
  exact ⟨zl (by simp [okS,z,K]),M ua⟩
 have kj:¬ ((20:Int) < l.length):=by omega
 go_enter Tryz.func43,Tryz.ntmps43
 go_wp2_with fail
 refine (ba next 1 1000000 _).mono ?_
 rintro e w1 ⟨rfl,rfl⟩
 go_wp2_with fail
 generalize (w.alloc (E #[H next,.slice a l.length F] 28)) = W1 at ua HX ⊢
 have hsw:=(M HX).2
 go_loopw [3] (fun iv wr=>∃ (i:Nat) (last:Int),i ≤ l.length∧iv = H i∧Hid (allR next 0 l = allR next last (l.drop i))∧0 ≤ last∧(i = 0→last = 0)∧(∀ j,i = j + 1→∃ p,l[j]? = some p∧p.id = last)∧yl W1 wr) (fun iv _=>l.length - (intOf iv).toNat)
 case atStart=>exact ⟨0,0,Nat.zero_le _,rfl,rfl,Int.le_refl _,fun _=>rfl,fun j L=>by omega,Below.refl _ _⟩
 case round =>
  obtain ⟨i,last,hi,rfl,D,oT,hz,hp,xe⟩:=hrel
  have HB:=Q xe
  have HP:=Q hp
  have kG:=zb (M HX).1 xe hsw
  have x0:wr.cell? (J w.heap.size 0) = some (H next):=kG 0 _ rfl
  have x1:wr.cell? (J w.heap.size 1) = some (.slice a l.length F):=kG 1 _ rfl
  have HBOX:=Q kG
  clear xe hp kG
  by_cases xL:i < l.length
  ·obtain ⟨c,uC⟩:∃ c,l[i]? = some c:=⟨_,yE xL⟩
   have jW:l.drop i = c :: l.drop (i + 1):=by
    obtain ⟨z,rfl⟩:=yD.1 uC
    exact yZ z
   have HI:Hid (allR next 0 l = (ordB c && decide (last < c.id) && decide (c.id < next) && allR next c.id (l.drop (i + 1)))):=by
    have:=M D
    rw [jW] at this
    exact this
   obtain ⟨b,off,rfl,hb,xk⟩:=M HC i c uC
   have hb01:=(M ua).trans ((M HB).mono (M ua).size)
   obtain ⟨g0,g1,g2,g3,g4,g5⟩:=zx (zb xk hb01 hb)
   have HS:=Q (M HGG c (yL uC))
   have qW:=Q uC
   have uO:(i:Int) < l.length:=by omega
   have kf:=(M HB).size
   have kt:=Q hb01
   clear uC xk jW D hb01
   go_wp2_with fail
   generalize hW4:(wr.alloc (E (yt c.id c.side c.ticks c.left c.life c.tag).toArray 49)) = W4
   have jK:Hid (W4.rangeAt wr.heap.size 0 c.vs∧W4.rangeAt w.heap.size 0 [H next,.slice (some (J b off)) l.length F]∧yl W1 W4∧W4.heap.size = wr.heap.size + 1∧yl wr W4):=by
    subst hW4
    have hbb:=eD wr (E (yt c.id c.side c.ticks c.left c.life c.tag).toArray 49)
    exact ⟨zg wr c.vs _,zb (M HBOX) hbb (by omega),(M HB).alloc kf _,ze _ _,hbb⟩
   have qv:Hid (∀ w',W4.grownBy w' none→w'.rangeAt wr.heap.size 0 c.vs∧w'.rangeAt w.heap.size 0 [H next,.slice (some (J b off)) l.length F]):=fun w' h' =>
    ⟨zm (M jK).1 h' (by rw [(M jK).2.2.2.1]; omega) (by simp),zm (M jK).2.1 h' (by rw [(M jK).2.2.2.1]; omega) (by simp)⟩
   have HPREV:Hid (∀ j p,i = j + 1→l[j]? = some p→∀ w',W4.grownBy w' none→w'.rangeAt b (off + j * 6) p.vs):=fun j p L hpj w' h'=>by
    obtain ⟨b',vH,ji,oP,vS⟩:=M HC j p hpj
    simp only [Option.some.injEq,Addr.mk.injEq,and_true] at ji
    obtain ⟨rfl,rfl⟩:=ji
    exact zm (zb (zb vS (M kt) hb) (M jK).2.2.2.2 (yG hb (M kt).size)) h' (by rw [(M jK).2.2.2.1]; have:=(M kt).size; omega) (by simp)
   have HORD:Hid (∀ W,Calls Tryz.prog 81 #[.agg (yt c.id c.side c.ticks c.left c.life c.tag).toArray] W fun e w'=>e = .returned (.bool (ordB c))∧W.grownBy w' none):=fun W=>(l03Order_any c W (M HS)).mono fun e w' h=>⟨h.1,zU h.2 tg⟩
   clear hW4 g0 g1 g2 g3 g4 g5 x0 x1
   haveI:=gw_ne W4
   have k0:∀ u:GW W4,u.val.cell? (J wr.heap.size 0) = some (H c.id):=fun u=>(M qv u.val u.property).1 0 _ rfl
   have k1:∀ u:GW W4,u.val.cell? (J wr.heap.size 1) = some (H c.side):=fun u=>(M qv u.val u.property).1 1 _ rfl
   have k2:∀ u:GW W4,u.val.cell? (J wr.heap.size 2) = some (H c.ticks):=fun u=>(M qv u.val u.property).1 2 _ rfl
   have k3:∀ u:GW W4,u.val.cell? (J wr.heap.size 3) = some (H c.left):=fun u=>(M qv u.val u.property).1 3 _ rfl
   have k4:∀ u:GW W4,u.val.cell? (J wr.heap.size 4) = some (H c.life):=fun u=>(M qv u.val u.property).1 4 _ rfl
   have k5:∀ u:GW W4,u.val.cell? (J wr.heap.size 5) = some (yi c.tag):=fun u=>(M qv u.val u.property).1 5 _ rfl
   have m0:∀ u:GW W4,u.val.cell? (J w.heap.size 0) = some (H next):=fun u=>(M qv u.val u.property).2 0 _ rfl
   have m1:∀ u:GW W4,u.val.cell? (J w.heap.size 1) = some (.slice (some (J b off)) l.length F):=fun u=>(M qv u.val u.property).2 1 _ rfl
   cases Y:ordB c
   ·have HN:Hid (allR next 0 l = false):=by
     show _ = _
     rw [M HI,Y]; simp
    refine dp (W:=W4) (by kernel_rfl) (by kernel_rfl) (yO _ _) ?_
    repeat (go_big_quiet_step ((rename_i u; refine (M HORD u.val).mono ?_; rintro e w3 ⟨rfl,uz⟩; exact ⟨rfl,⟨w3,u.property.trans uz⟩,rfl⟩)))
    refine wpQuiet_nil ?_
    rintro _ ⟨⟨w5,vu⟩,rfl⟩
    have vA:=Q ((M jK).2.2.1.grown vu (by rw [(M jK).2.2.2.1]; omega) (fun g hg=>by cases hg))
    clear vu
    go_wp2_with fail
    go_ret
    exact ⟨zl (by rw [okS,M HN]; simp),(M ua).trans ((M vA).mono (M ua).size)⟩
   by_cases jq:c.id < 1
   ·have vp:¬ last < c.id:=by omega
    have hd1:decide (c.id < 1) = true:=by simpa using jq
    have HN:Hid (allR next 0 l = false):=by
     show _ = _
     rw [M HI,decide_eq_false vp]; simp
    refine dp (W:=W4) (by kernel_rfl) (by kernel_rfl) (yO _ _) ?_
    repeat (go_big_quiet_step ((rename_i u; refine (M HORD u.val).mono ?_; rintro e w3 ⟨rfl,uz⟩; exact ⟨rfl,⟨w3,u.property.trans uz⟩,rfl⟩)))
    refine wpQuiet_nil ?_
    rintro _ ⟨⟨w5,vu⟩,rfl⟩
    have vA:=Q ((M jK).2.2.1.grown vu (by rw [(M jK).2.2.2.1]; omega) (fun g hg=>by cases hg))
    clear vu
    go_wp2_with fail
    go_ret
    exact ⟨zl (by rw [okS,M HN]; simp),(M ua).trans ((M vA).mono (M ua).size)⟩
   have hd1:decide (c.id < 1) = false:=by simpa using jq
   by_cases hcn:c.id < next
   rotate_left
   ·have hd2:decide (next ≤ c.id) = true:=by simp; omega
    have HN:Hid (allR next 0 l = false):=by
     show _ = _
     rw [M HI,decide_eq_false hcn]; simp
    refine dp (W:=W4) (by kernel_rfl) (by kernel_rfl) (yO _ _) ?_
    repeat (go_big_quiet_step ((rename_i u; refine (M HORD u.val).mono ?_; rintro e w3 ⟨rfl,uz⟩; exact ⟨rfl,⟨w3,u.property.trans uz⟩,rfl⟩)))
    refine wpQuiet_nil ?_
    rintro _ ⟨⟨w5,vu⟩,rfl⟩
    have vA:=Q ((M jK).2.2.1.grown vu (by rw [(M jK).2.2.2.1]; omega) (fun g hg=>by cases hg))
    clear vu
    go_wp2_with fail
    go_ret
    exact ⟨zl (by rw [okS,M HN]; simp),(M ua).trans ((M vA).mono (M ua).size)⟩
   have hd2:decide (next ≤ c.id) = false:=by simpa using hcn
   cases i with
   | zero =>
    have vp:last < c.id:=by have:=hz rfl; omega
    have HN:Hid (allR next 0 l = allR next c.id (l.drop (0 + 1))):=by
     show _ = _
     rw [M HI,Y,decide_eq_true vp,decide_eq_true hcn]; rfl
    refine dp (W:=W4) (by kernel_rfl) (by kernel_rfl) (yO _ _) ?_
    repeat (go_big_quiet_step ((rename_i u; refine (M HORD u.val).mono ?_; rintro e w3 ⟨rfl,uz⟩; exact ⟨rfl,⟨w3,u.property.trans uz⟩,rfl⟩)))
    refine wpQuiet_nil ?_
    rintro _ ⟨⟨w5,vu⟩,rfl⟩
    have vA:=Q ((M jK).2.2.1.grown vu (by rw [(M jK).2.2.2.1]; omega) (fun g hg=>by cases hg))
    clear vu
    go_wp2_with fail
    go_roundw
    case rel=>exact ⟨0 + 1,c.id,by omega,by go_num,M HN,by omega,fun h=>by omega,fun j' hj'=>⟨c,by rw [show j' = 0 by omega]; exact M qW,rfl⟩,M vA⟩
    case measure=>simp [intOf]; omega
   | succ j =>
    obtain ⟨p,hpj,qN⟩:=M HP j rfl
    have q0:∀ u:GW W4,u.val.cell? (J b (off + j * 6)) = some (H p.id):=fun u=>(zx (M HPREV j p rfl hpj u.val u.property)).1
    have ar:((j + 1:Nat):Int) = (j:Int) + 1:=by omega
    have hjl:(j:Int) < l.length:=by omega
    have hwj:IntKind.i64.wrap ((j:Int) + 1 - 1) = (j:Int):=by rw [IntKind.wrap_i64]; omega
    have vW:decide ((0:Int) < (j:Int) + 1) = true:=by rw [xc]; omega
    clear hpj
    by_cases vp:last < c.id
    ·have hd3:decide (c.id ≤ p.id) = false:=by rw [qN]; simpa using vp
     have HN:Hid (allR next 0 l = allR next c.id (l.drop ((j + 1) + 1))):=by
      show _ = _
      rw [M HI,Y,decide_eq_true vp,decide_eq_true hcn]; rfl
     refine dp (W:=W4) (by kernel_rfl) (by kernel_rfl) (yO _ _) ?_
     repeat (go_big_quiet_step ((rename_i u; refine (M HORD u.val).mono ?_; rintro e w3 ⟨rfl,uz⟩; exact ⟨rfl,⟨w3,u.property.trans uz⟩,rfl⟩)))
     refine wpQuiet_nil ?_
     rintro _ ⟨⟨w5,vu⟩,rfl⟩
     have vA:=Q ((M jK).2.2.1.grown vu (by rw [(M jK).2.2.2.1]; omega) (fun g hg=>by cases hg))
     clear vu
     go_wp2_with fail
     go_roundw
     case rel=>exact ⟨(j + 1) + 1,c.id,by omega,by go_num,M HN,by omega,fun h=>by omega,fun j' hj'=>⟨c,by rw [show j' = (j + 1) by omega]; exact M qW,rfl⟩,M vA⟩
     case measure=>simp [intOf]; omega
    ·have hd3:decide (c.id ≤ p.id) = true:=by rw [qN]; simpa using vp
     have HN:Hid (allR next 0 l = false):=by
      show _ = _
      rw [M HI,decide_eq_false vp]; simp
     refine dp (W:=W4) (by kernel_rfl) (by kernel_rfl) (yO _ _) ?_
     repeat (go_big_quiet_step ((rename_i u; refine (M HORD u.val).mono ?_; rintro e w3 ⟨rfl,uz⟩; exact ⟨rfl,⟨w3,u.property.trans uz⟩,rfl⟩)))
     refine wpQuiet_nil ?_
     rintro _ ⟨⟨w5,vu⟩,rfl⟩
     have vA:=Q ((M jK).2.2.1.grown vu (by rw [(M jK).2.2.2.1]; omega) (fun g hg=>by cases hg))
     clear vu
     go_wp2_with fail
     go_ret
     exact ⟨zl (by rw [okS,M HN]; simp),(M ua).trans ((M vA).mono (M ua).size)⟩
  ·have hallT:allR next 0 l = true:=by
    have h:=M D
    rw [yX (by omega)] at h
    rw [h]; rfl
   have HALL:=Q hallT
   have HRI:=Q (dG hallT).1
   have kt:=Q ((M ua).trans ((M HB).mono (M ua).size))
   have HRr:=Q (zh (M HR) (M kt) tg)
   have kf:w.heap.size < wr.heap.size:=yG hsw (M HB).size
   clear D hallT
   go_wp2_with fail
   refine (l03Levels_any _ l wr (M HRr) (by omega)).mono ?_
   rintro e w3 ⟨rfl,uz⟩
   have vJ:=Q uz
   have z1:w3.cell? (J w.heap.size 1) = some (.slice a l.length F):=uz.cell x1 (by simp)
   have oI:=Q (rdR_grown (M HRr) uz (fun g hg=>by cases hg))
   clear uz x0 x1
   by_cases h8:nlev l ≤ 8
   rotate_left
   ·have h8':(8:Int) < (nlev l:Nat):=by omega
    go_wp2_with fail
    go_ret
    refine ⟨zl (by simp [okS,h8]),?_⟩
    exact (M kt).trans ((gr_below' (M vJ) (fun g hg=>by cases hg) tg).mono (M kt).size)
   have h8':¬ ((8:Int) < (nlev l:Nat)):=by omega
   have pT:Hid (okS next l = noX l):=by
    show _ = _
    rw [okS,z,decide_eq_true K,M HALL,decide_eq_true h8]; rfl
   go_wp2_with fail
   refine (en _ l 1 w3 (M oI) (M HRI) (by omega)).mono ?_
   rintro e w4 ⟨kb,rfl,hf1,km⟩
   have oH:=Q ((M vJ).trans km)
   have y1:w4.cell? (J w.heap.size 1) = some (.slice a l.length F):=km.cell z1 (by simp)
   have HR4:=Q (rdR_grown (M oI) km (fun g hg=>by cases hg))
   have pN:=Q hf1
   clear km hf1 z1
   go_wp2_with fail
   refine (en _ l 2 w4 (M HR4) (M HRI) (by omega)).mono ?_
   rintro e w5 ⟨ks,rfl,hf2,vu⟩
   have jS:=Q ((M oH).trans vu)
   have v1:w5.cell? (J w.heap.size 1) = some (.slice a l.length F):=vu.cell y1 (by simp)
   have HF2:=Q hf2
   have vY:=Q ((M kt).trans ((gr_below' (M jS) (fun g hg=>by cases hg) tg).mono (M kt).size))
   clear vu hf2 y1
   rcases frPre_end (M pN) with ⟨rfl,hno1⟩ | ⟨ib,ob,rfl,hib,ah⟩
   ·have HN:=Q (noX_none1 hno1)
    clear hno1
    go_wp2_with fail
    go_quiet (fail)
    go_wp2_with fail
    go_ret
    exact ⟨zl (by rw [M pT,M HN]),⟨(M vY).os,(M vY).tape,(M vY).output,(M vY).size,(M vY).block⟩⟩
   have hib0:decide ((ib:Int) < 0) = false:=by simp
   rcases frPre_end (M HF2) with ⟨rfl,hno2⟩ | ⟨is,os,rfl,his,hfs⟩
   ·have HN:=Q (noX_none2 hno2)
    clear hno2
    go_wp2_with fail
    go_quiet (fail)
    go_wp2_with fail
    go_ret
    exact ⟨zl (by rw [M pT,M HN]),⟨(M vY).os,(M vY).tape,(M vY).output,(M vY).size,(M vY).block⟩⟩
   have his0:decide ((is:Int) < 0) = false:=by simp
   have HN:=Q (noX_fronts ah hfs)
   obtain ⟨b,off,rfl,hb,hcb⟩:=M HC ib ob ah.1
   obtain ⟨b',vH,ji,oP,oS⟩:=M HC is os hfs.1
   simp only [Option.some.injEq,Addr.mk.injEq,and_true] at ji
   obtain ⟨rfl,rfl⟩:=ji
   obtain ⟨-,-,t1,-⟩:=zx (zb hcb (M vY) hb)
   obtain ⟨-,-,t2,-⟩:=zx (zb oS (M vY) hb)
   have hib':(ib:Int) < l.length:=by omega
   have his':(is:Int) < l.length:=by omega
   clear ah hfs hcb oS
   go_wp2_with fail
   go_quiet (fail)
   go_wp2_with fail
   go_ret
   exact ⟨zl (by rw [M pT,M HN]),⟨(M vY).os,(M vY).tape,(M vY).output,(M vY).size,(M vY).block⟩⟩
end Go.Proofs.YtbakanofkghmiaaGreat
