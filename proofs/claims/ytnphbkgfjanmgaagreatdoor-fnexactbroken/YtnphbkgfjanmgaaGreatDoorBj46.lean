/-
  Whether a book is right, as the model says it: proved by walking the function. (what walks the functions of the model or of the laws)
-/
import Derived.Test.YtnphbkgfjanmgaaGreatDoorBj31
set_option linter.unusedVariables false
set_option maxHeartbeats 6400000
set_option maxRecDepth 100000
namespace Go.Proofs.YtnphbkgfjanmgaaGreatDoor
open Go.RowKit
theorem specBookOK_any (next:Int) (v:Value) (l:List Od) (w:World) (hr:RdR Od.vs 6 w v l) (hg:∀ c ∈ l,c.tag.size ≤ maxLen) :
  Calls Tryz.prog 25 #[.agg #[I next,v]] w fun e w'=>e = .returned (.bool (okS next l))∧yn w w':=by
 have HR:=M hr
 have HGG:=M hg
 obtain ⟨a,cap,rfl,xA,hc⟩:=hr
 have xr:∀ (k:Nat) (c:Od),l[k]? = some c→∃ b off,a = some (U b off)∧b < w.heap.size∧w.rangeAt b (off + k * 6) c.vs:=by
  intro k c hk
  obtain ⟨b,off,Q,E,h3⟩:=hc (by intro h; rw [h] at hk; simp at hk)
  exact ⟨b,off,Q,E,h3 k c hk⟩
 have HC:=M xr
 clear xr hc hg
 have xS:Hid (yn w (w.alloc (A #[I next,.slice a l.length cap] 34))):=fE _ _
 have kD:=zn w [I next,.slice a l.length cap] 34
 have HX:Hid (World.rangeAt (w.alloc (A #[I next,.slice a l.length cap] 34)) w.heap.size 0 [I next,.slice a l.length cap]∧w.heap.size < (w.alloc (A #[I next,.slice a l.length cap] 34)).heap.size):=⟨kD,by rw [zi]; omega⟩
 clear kD
 cases Q:betB next 1 1000000
 ·go_enter Tryz.func25,Tryz.ntmps25
  go_wp2_with fail
  refine (bP next 1 1000000 _).mono ?_
  rintro e w1 ⟨rfl,rfl⟩
  go_wp2_with fail
  go_ret
  exact ⟨zp (by simp [okS,Q]),H xS⟩
 by_cases E:l.length ≤ 20
 rotate_left
 ·have oI:(20:Int) < l.length:=by omega
  go_enter Tryz.func25,Tryz.ntmps25
  go_wp2_with fail
  refine (bP next 1 1000000 _).mono ?_
  rintro e w1 ⟨rfl,rfl⟩
  go_wp2_with fail
  go_ret
  exact ⟨zp (by simp [okS,Q,E]),H xS⟩
 have oI:¬ ((20:Int) < l.length):=by omega
 go_enter Tryz.func25,Tryz.ntmps25
 go_wp2_with fail
 refine (bP next 1 1000000 _).mono ?_
 rintro e w1 ⟨rfl,rfl⟩
 go_wp2_with fail
 generalize (w.alloc (A #[I next,.slice a l.length cap] 34)) = W1 at xS HX ⊢
 have hsw:=(H HX).2
 go_loopw [3] (fun iv wr=>∃ (i:Nat) (last:Int),i ≤ l.length∧iv = I i∧Hid (allR next 0 l = allR next last (l.drop i))∧0 ≤ last∧(i = 0→last = 0)∧(∀ j,i = j + 1→∃ p,l[j]? = some p∧p.id = last)∧yn W1 wr) (fun iv _=>l.length - (intOf iv).toNat)
 case atStart=>exact ⟨0,0,Nat.zero_le _,rfl,rfl,Int.le_refl _,fun _=>rfl,fun j O=>by omega,Below.refl _ _⟩
 case round =>
  obtain ⟨i,last,hi,rfl,D,jH,hz,hp,xk⟩:=hrel
  have HB:=M xk
  have HP:=M hp
  have hbox:=zc (H HX).1 xk hsw
  have x0:wr.cell? (U w.heap.size 0) = some (I next):=hbox 0 _ rfl
  have x1:wr.cell? (U w.heap.size 1) = some (.slice a l.length cap):=hbox 1 _ rfl
  have HBOX:=M hbox
  clear xk hp hbox
  by_cases xI:i < l.length
  ·obtain ⟨c,ur⟩:∃ c,l[i]? = some c:=⟨_,yH xI⟩
   have ja:l.drop i = c :: l.drop (i + 1):=by
    obtain ⟨Q,rfl⟩:=yG.1 ur
    exact xc Q
   have HI:Hid (allR next 0 l = (ordB c && decide (last < c.id) && decide (c.id < next) && allR next c.id (l.drop (i + 1)))):=by
    have:=H D
    rw [ja] at this
    exact this
   obtain ⟨b,off,rfl,Y,V⟩:=H HC i c ur
   have hb01:=(H xS).trans ((H HB).mono (H xS).size)
   obtain ⟨g0,g1,g2,g3,g4,g5⟩:=zA (zc V hb01 Y)
   have HS:=M (H HGG c (yO ur))
   have jK:=M ur
   have uJ:(i:Int) < l.length:=by omega
   have pk:=(H HB).size
   have kY:=M hb01
   clear ur V ja D hb01
   go_wp2_with fail
   generalize hW4:(wr.alloc (A (yw c.id c.side c.ticks c.left c.life c.tag).toArray 78)) = W4
   have kn:Hid (W4.rangeAt wr.heap.size 0 c.vs∧W4.rangeAt w.heap.size 0 [I next,.slice (some (U b off)) l.length cap]∧yn W1 W4∧W4.heap.size = wr.heap.size + 1∧yn wr W4):=by
    subst hW4
    have hbb:=fE wr (A (yw c.id c.side c.ticks c.left c.life c.tag).toArray 78)
    exact ⟨zn wr c.vs _,zc (H HBOX) hbb (by omega),(H HB).alloc pk _,zi _ _,hbb⟩
   have qO:Hid (∀ w',W4.grownBy w' none→w'.rangeAt wr.heap.size 0 c.vs∧w'.rangeAt w.heap.size 0 [I next,.slice (some (U b off)) l.length cap]):=fun w' h' =>
    ⟨zw (H kn).1 h' (by rw [(H kn).2.2.2.1]; omega) (by simp),zw (H kn).2.1 h' (by rw [(H kn).2.2.2.1]; omega) (by simp)⟩
   have HPREV:Hid (∀ j p,i = j + 1→l[j]? = some p→∀ w',W4.grownBy w' none→w'.rangeAt b (off + j * 6) p.vs):=fun j p O hpj w' h'=>by
    obtain ⟨b',qu,jF,hb',qr⟩:=H HC j p hpj
    simp only [Option.some.injEq,Addr.mk.injEq,and_true] at jF
    obtain ⟨rfl,rfl⟩:=jF
    exact zw (zc (zc qr (H kY) Y) (H kn).2.2.2.2 (yJ Y (H kY).size)) h' (by rw [(H kn).2.2.2.1]; have:=(H kY).size; omega) (by simp)
   have HORD:Hid (∀ W,Calls Tryz.prog 48 #[.agg (yw c.id c.side c.ticks c.left c.life c.tag).toArray] W fun e w'=>e = .returned (.bool (ordB c))∧W.grownBy w' none):=fun W=>(l03Order_any c W (H HS)).mono fun e w' h=>⟨h.1,cK h.2 ya⟩
   clear hW4 g0 g1 g2 g3 g4 g5 x0 x1
   haveI:=gw_ne W4
   have k0:∀ u:GW W4,u.val.cell? (U wr.heap.size 0) = some (I c.id):=fun u=>(H qO u.val u.property).1 0 _ rfl
   have k1:∀ u:GW W4,u.val.cell? (U wr.heap.size 1) = some (I c.side):=fun u=>(H qO u.val u.property).1 1 _ rfl
   have k2:∀ u:GW W4,u.val.cell? (U wr.heap.size 2) = some (I c.ticks):=fun u=>(H qO u.val u.property).1 2 _ rfl
   have k3:∀ u:GW W4,u.val.cell? (U wr.heap.size 3) = some (I c.left):=fun u=>(H qO u.val u.property).1 3 _ rfl
   have k4:∀ u:GW W4,u.val.cell? (U wr.heap.size 4) = some (I c.life):=fun u=>(H qO u.val u.property).1 4 _ rfl
   have k5:∀ u:GW W4,u.val.cell? (U wr.heap.size 5) = some (yk c.tag):=fun u=>(H qO u.val u.property).1 5 _ rfl
   have m0:∀ u:GW W4,u.val.cell? (U w.heap.size 0) = some (I next):=fun u=>(H qO u.val u.property).2 0 _ rfl
   have m1:∀ u:GW W4,u.val.cell? (U w.heap.size 1) = some (.slice (some (U b off)) l.length cap):=fun u=>(H qO u.val u.property).2 1 _ rfl
   cases N:ordB c
   ·have HN:Hid (allR next 0 l = false):=by
     show _ = _
     rw [H HI,N]; simp
    refine dO (W:=W4) (by kernel_rfl) (by kernel_rfl) (yR _ _) ?_
    repeat (go_big_quiet_step ((rename_i u; refine (H HORD u.val).mono ?_; rintro e w3 ⟨rfl,uG⟩; exact ⟨rfl,⟨w3,u.property.trans uG⟩,rfl⟩)))
    refine wpQuiet_nil ?_
    rintro _ ⟨⟨w5,jc⟩,rfl⟩
    have ug:=M ((H kn).2.2.1.grown jc (by rw [(H kn).2.2.2.1]; omega) (fun g hg=>by cases hg))
    clear jc
    go_wp2_with fail
    go_ret
    exact ⟨zp (by rw [okS,H HN]; simp),(H xS).trans ((H ug).mono (H xS).size)⟩
   by_cases jp:c.id < 1
   ·have qb:¬ last < c.id:=by omega
    have hd1:decide (c.id < 1) = true:=by simpa using jp
    have HN:Hid (allR next 0 l = false):=by
     show _ = _
     rw [H HI,decide_eq_false qb]; simp
    refine dO (W:=W4) (by kernel_rfl) (by kernel_rfl) (yR _ _) ?_
    repeat (go_big_quiet_step ((rename_i u; refine (H HORD u.val).mono ?_; rintro e w3 ⟨rfl,uG⟩; exact ⟨rfl,⟨w3,u.property.trans uG⟩,rfl⟩)))
    refine wpQuiet_nil ?_
    rintro _ ⟨⟨w5,jc⟩,rfl⟩
    have ug:=M ((H kn).2.2.1.grown jc (by rw [(H kn).2.2.2.1]; omega) (fun g hg=>by cases hg))
    clear jc
    go_wp2_with fail
    go_ret
    exact ⟨zp (by rw [okS,H HN]; simp),(H xS).trans ((H ug).mono (H xS).size)⟩
   have hd1:decide (c.id < 1) = false:=by simpa using jp
   by_cases hcn:c.id < next
   rotate_left
   ·have hd2:decide (next ≤ c.id) = true:=by simp; omega
    have HN:Hid (allR next 0 l = false):=by
     show _ = _
     rw [H HI,decide_eq_false hcn]; simp
    refine dO (W:=W4) (by kernel_rfl) (by kernel_rfl) (yR _ _) ?_
    repeat (go_big_quiet_step ((rename_i u; refine (H HORD u.val).mono ?_; rintro e w3 ⟨rfl,uG⟩; exact ⟨rfl,⟨w3,u.property.trans uG⟩,rfl⟩)))
    refine wpQuiet_nil ?_
    rintro _ ⟨⟨w5,jc⟩,rfl⟩
    have ug:=M ((H kn).2.2.1.grown jc (by rw [(H kn).2.2.2.1]; omega) (fun g hg=>by cases hg))
    clear jc
    go_wp2_with fail
    go_ret
    exact ⟨zp (by rw [okS,H HN]; simp),(H xS).trans ((H ug).mono (H xS).size)⟩
   have hd2:decide (next ≤ c.id) = false:=by simpa using hcn
   cases i with
   | zero =>
    have qb:last < c.id:=by have:=hz rfl; omega
    have HN:Hid (allR next 0 l = allR next c.id (l.drop (0 + 1))):=by
     show _ = _
     rw [H HI,N,decide_eq_true qb,decide_eq_true hcn]; rfl
    refine dO (W:=W4) (by kernel_rfl) (by kernel_rfl) (yR _ _) ?_
    repeat (go_big_quiet_step ((rename_i u; refine (H HORD u.val).mono ?_; rintro e w3 ⟨rfl,uG⟩; exact ⟨rfl,⟨w3,u.property.trans uG⟩,rfl⟩)))
    refine wpQuiet_nil ?_
    rintro _ ⟨⟨w5,jc⟩,rfl⟩
    have ug:=M ((H kn).2.2.1.grown jc (by rw [(H kn).2.2.2.1]; omega) (fun g hg=>by cases hg))
    clear jc
    go_wp2_with fail
    go_roundw
    case rel=>exact ⟨0 + 1,c.id,by omega,by go_num,H HN,by omega,fun h=>by omega,fun j' hj'=>⟨c,by rw [show j' = 0 by omega]; exact H jK,rfl⟩,H ug⟩
    case measure=>simp [intOf]; omega
   | succ j =>
    obtain ⟨p,hpj,uQ⟩:=H HP j rfl
    have q0:∀ u:GW W4,u.val.cell? (U b (off + j * 6)) = some (I p.id):=fun u=>(zA (H HPREV j p rfl hpj u.val u.property)).1
    have aJ:((j + 1:Nat):Int) = (j:Int) + 1:=by omega
    have hjl:(j:Int) < l.length:=by omega
    have hwj:IntKind.i64.wrap ((j:Int) + 1 - 1) = (j:Int):=by rw [IntKind.wrap_i64]; omega
    have qK:decide ((0:Int) < (j:Int) + 1) = true:=by rw [xf]; omega
    clear hpj
    by_cases qb:last < c.id
    ·have pU:decide (c.id ≤ p.id) = false:=by rw [uQ]; simpa using qb
     have HN:Hid (allR next 0 l = allR next c.id (l.drop ((j + 1) + 1))):=by
      show _ = _
      rw [H HI,N,decide_eq_true qb,decide_eq_true hcn]; rfl
     refine dO (W:=W4) (by kernel_rfl) (by kernel_rfl) (yR _ _) ?_
     repeat (go_big_quiet_step ((rename_i u; refine (H HORD u.val).mono ?_; rintro e w3 ⟨rfl,uG⟩; exact ⟨rfl,⟨w3,u.property.trans uG⟩,rfl⟩)))
     refine wpQuiet_nil ?_
     rintro _ ⟨⟨w5,jc⟩,rfl⟩
     have ug:=M ((H kn).2.2.1.grown jc (by rw [(H kn).2.2.2.1]; omega) (fun g hg=>by cases hg))
     clear jc
     go_wp2_with fail
     go_roundw
     case rel=>exact ⟨(j + 1) + 1,c.id,by omega,by go_num,H HN,by omega,fun h=>by omega,fun j' hj'=>⟨c,by rw [show j' = (j + 1) by omega]; exact H jK,rfl⟩,H ug⟩
     case measure=>simp [intOf]; omega
    ·have pU:decide (c.id ≤ p.id) = true:=by rw [uQ]; simpa using qb
     have HN:Hid (allR next 0 l = false):=by
      show _ = _
      rw [H HI,decide_eq_false qb]; simp
     refine dO (W:=W4) (by kernel_rfl) (by kernel_rfl) (yR _ _) ?_
     repeat (go_big_quiet_step ((rename_i u; refine (H HORD u.val).mono ?_; rintro e w3 ⟨rfl,uG⟩; exact ⟨rfl,⟨w3,u.property.trans uG⟩,rfl⟩)))
     refine wpQuiet_nil ?_
     rintro _ ⟨⟨w5,jc⟩,rfl⟩
     have ug:=M ((H kn).2.2.1.grown jc (by rw [(H kn).2.2.2.1]; omega) (fun g hg=>by cases hg))
     clear jc
     go_wp2_with fail
     go_ret
     exact ⟨zp (by rw [okS,H HN]; simp),(H xS).trans ((H ug).mono (H xS).size)⟩
  ·have hallT:allR next 0 l = true:=by
    have h:=H D
    rw [xa (by omega)] at h
    rw [h]; rfl
   have HALL:=M hallT
   have HRI:=M (eA hallT).1
   have kY:=M ((H xS).trans ((H HB).mono (H xS).size))
   have HRr:=M (zh (H HR) (H kY) ya)
   have pk:w.heap.size < wr.heap.size:=yJ hsw (H HB).size
   clear D hallT
   go_wp2_with fail
   refine (l03Levels_any _ l wr (H HRr) (by omega)).mono ?_
   rintro e w3 ⟨rfl,uG⟩
   have vi:=M uG
   have z1:w3.cell? (U w.heap.size 1) = some (.slice a l.length cap):=uG.cell x1 (by simp)
   have aB:=M (rdR_grown (H HRr) uG (fun g hg=>by cases hg))
   clear uG x0 x1
   by_cases h8:nlev l ≤ 8
   rotate_left
   ·have h8':(8:Int) < (nlev l:Nat):=by omega
    go_wp2_with fail
    go_ret
    refine ⟨zp (by simp [okS,h8]),?_⟩
    exact (H kY).trans ((dR (H vi) (fun g hg=>by cases hg) ya).mono (H kY).size)
   have h8':¬ ((8:Int) < (nlev l:Nat)):=by omega
   have jW:Hid (okS next l = noX l):=by
    show _ = _
    rw [okS,Q,decide_eq_true E,H HALL,decide_eq_true h8]; rfl
   go_wp2_with fail
   refine (ey _ l 1 w3 (H aB) (H HRI) (by omega)).mono ?_
   rintro e w4 ⟨kb,rfl,oL,kM⟩
   have ut:=M ((H vi).trans kM)
   have y1:w4.cell? (U w.heap.size 1) = some (.slice a l.length cap):=kM.cell z1 (by simp)
   have pp:=M (rdR_grown (H aB) kM (fun g hg=>by cases hg))
   have HF1:=M oL
   clear kM oL z1
   go_wp2_with fail
   refine (ey _ l 2 w4 (H pp) (H HRI) (by omega)).mono ?_
   rintro e w5 ⟨ks,rfl,hf2,jc⟩
   have uE:=M ((H ut).trans jc)
   have v1:w5.cell? (U w.heap.size 1) = some (.slice a l.length cap):=jc.cell y1 (by simp)
   have vC:=M hf2
   have vu:=M ((H kY).trans ((dR (H uE) (fun g hg=>by cases hg) ya).mono (H kY).size))
   clear jc hf2 y1
   rcases frPre_end (H HF1) with ⟨rfl,hno1⟩ | ⟨ib,ob,rfl,hib,oM⟩
   ·have HN:=M (noX_none1 hno1)
    clear hno1
    go_wp2_with fail
    go_quiet (fail)
    go_wp2_with fail
    go_ret
    exact ⟨zp (by rw [H jW,H HN]),⟨(H vu).os,(H vu).tape,(H vu).output,(H vu).size,(H vu).block⟩⟩
   have hib0:decide ((ib:Int) < 0) = false:=by simp
   rcases frPre_end (H vC) with ⟨rfl,hno2⟩ | ⟨is,os,rfl,his,hfs⟩
   ·have HN:=M (noX_none2 hno2)
    clear hno2
    go_wp2_with fail
    go_quiet (fail)
    go_wp2_with fail
    go_ret
    exact ⟨zp (by rw [H jW,H HN]),⟨(H vu).os,(H vu).tape,(H vu).output,(H vu).size,(H vu).block⟩⟩
   have his0:decide ((is:Int) < 0) = false:=by simp
   have HN:=M (noX_fronts oM hfs)
   obtain ⟨b,off,rfl,Y,hcb⟩:=H HC ib ob oM.1
   obtain ⟨b',qu,jF,hb',kq⟩:=H HC is os hfs.1
   simp only [Option.some.injEq,Addr.mk.injEq,and_true] at jF
   obtain ⟨rfl,rfl⟩:=jF
   obtain ⟨-,-,t1,-⟩:=zA (zc hcb (H vu) Y)
   obtain ⟨-,-,t2,-⟩:=zA (zc kq (H vu) Y)
   have hib':(ib:Int) < l.length:=by omega
   have his':(is:Int) < l.length:=by omega
   clear oM hfs hcb kq
   go_wp2_with fail
   go_quiet (fail)
   go_wp2_with fail
   go_ret
   exact ⟨zp (by rw [H jW,H HN]),⟨(H vu).os,(H vu).tape,(H vu).output,(H vu).size,(H vu).block⟩⟩
theorem plain0 (ck L ct F cq ci:Int) (X:Nat) (cg:ByteArray) (w:World) (h0:(ck == 0) = false):Calls Tryz.prog 65 #[.agg (yx ck L ct F cq ci X cg).toArray] w fun e w'=>e = .returned (.bool false)∧yn w w':=by
 go_enter Tryz.func65,Tryz.ntmps65
 go_wp2_with fail
 go_ret
 exact ⟨rfl,by go_grown⟩
theorem plain1 (ck L ct F cq ci:Int) (X:Nat) (cg:ByteArray) (w:World) (h0:(ck == 0) = true) (Q:(L == 0) = false):Calls Tryz.prog 65 #[.agg (yx ck L ct F cq ci X cg).toArray] w fun e w'=>e = .returned (.bool false)∧yn w w':=by
 go_enter Tryz.func65,Tryz.ntmps65
 go_wp2_with fail
 go_ret
 exact ⟨rfl,by go_grown⟩
theorem plain2 (ck L ct F cq ci:Int) (X:Nat) (cg:ByteArray) (w:World) (h0:(ck == 0) = true) (Q:(L == 0) = true) (E:(ct == 0) = false):Calls Tryz.prog 65 #[.agg (yx ck L ct F cq ci X cg).toArray] w fun e w'=>e = .returned (.bool false)∧yn w w':=by
 go_enter Tryz.func65,Tryz.ntmps65
 go_wp2_with fail
 go_ret
 exact ⟨rfl,by go_grown⟩
theorem plain3 (ck L ct F cq ci:Int) (X:Nat) (cg:ByteArray) (w:World) (h0:(ck == 0) = true) (Q:(L == 0) = true) (E:(ct == 0) = true) (h3:(F == 0) = false):Calls Tryz.prog 65 #[.agg (yx ck L ct F cq ci X cg).toArray] w fun e w'=>e = .returned (.bool false)∧yn w w':=by
 go_enter Tryz.func65,Tryz.ntmps65
 go_wp2_with fail
 go_ret
 exact ⟨rfl,by go_grown⟩
theorem plain4 (ck L ct F cq ci:Int) (X:Nat) (cg:ByteArray) (w:World) (h0:(ck == 0) = true) (Q:(L == 0) = true) (E:(ct == 0) = true) (h3:(F == 0) = true) (h4:(cq == 0) = false):Calls Tryz.prog 65 #[.agg (yx ck L ct F cq ci X cg).toArray] w fun e w'=>e = .returned (.bool false)∧yn w w':=by
 go_enter Tryz.func65,Tryz.ntmps65
 go_wp2_with fail
 go_ret
 exact ⟨rfl,by go_grown⟩
theorem plain5 (ck L ct F cq ci:Int) (X:Nat) (cg:ByteArray) (w:World) (h0:(ck == 0) = true) (Q:(L == 0) = true) (E:(ct == 0) = true) (h3:(F == 0) = true) (h4:(cq == 0) = true) (h5:(ci == 0) = false):Calls Tryz.prog 65 #[.agg (yx ck L ct F cq ci X cg).toArray] w fun e w'=>e = .returned (.bool false)∧yn w w':=by
 go_enter Tryz.func65,Tryz.ntmps65
 go_wp2_with fail
 go_ret
 exact ⟨rfl,by go_grown⟩
theorem plain6 (ck L ct F cq ci:Int) (X:Nat) (cg:ByteArray) (w:World) (h0:(ck == 0) = true) (Q:(L == 0) = true) (E:(ct == 0) = true) (h3:(F == 0) = true) (h4:(cq == 0) = true) (h5:(ci == 0) = true) (h6:(((fbit X:Nat):Int) == 0) = false):Calls Tryz.prog 65 #[.agg (yx ck L ct F cq ci X cg).toArray] w fun e w'=>e = .returned (.bool false)∧yn w w':=by
 go_enter Tryz.func65,Tryz.ntmps65
 go_wp2_with (go_at_call 103; refine (bitsS_any X _).mono ?_; rintro e w' ⟨rfl,rfl⟩)
 go_ret
 exact ⟨rfl,by go_grown⟩
theorem plain7 (ck L ct F cq ci:Int) (X:Nat) (cg:ByteArray) (w:World) (h0:(ck == 0) = true) (Q:(L == 0) = true) (E:(ct == 0) = true) (h3:(F == 0) = true) (h4:(cq == 0) = true) (h5:(ci == 0) = true) (h6:(((fbit X:Nat):Int) == 0) = true) (h7:(cg.toList == []) = false):Calls Tryz.prog 65 #[.agg (yx ck L ct F cq ci X cg).toArray] w fun e w'=>e = .returned (.bool false)∧yn w w':=by
 go_enter Tryz.func65,Tryz.ntmps65
 go_wp2_with (go_at_call 103; refine (bitsS_any X _).mono ?_; rintro e w' ⟨rfl,rfl⟩)
 go_ret
 exact ⟨rfl,by go_grown⟩
theorem plain8 (ck L ct F cq ci:Int) (X:Nat) (cg:ByteArray) (w:World) (h0:(ck == 0) = true) (Q:(L == 0) = true) (E:(ct == 0) = true) (h3:(F == 0) = true) (h4:(cq == 0) = true) (h5:(ci == 0) = true) (h6:(((fbit X:Nat):Int) == 0) = true) (h7:(cg.toList == []) = true):Calls Tryz.prog 65 #[.agg (yx ck L ct F cq ci X cg).toArray] w fun e w'=>e = .returned (.bool true)∧yn w w':=by
 go_enter Tryz.func65,Tryz.ntmps65
 go_wp2_with (go_at_call 103; refine (bitsS_any X _).mono ?_; rintro e w' ⟨rfl,rfl⟩)
 go_ret
 exact ⟨rfl,by go_grown⟩
theorem plain_any (c:Cm) (w:World):Calls Tryz.prog 65 #[cmV c] w fun e w'=>e = .returned (.bool (plainC c))∧yn w w':=by
 obtain ⟨ck,L,ct,F,cq,ci,X,cg⟩:=c
 unfold cmV plainC
 simp only
 cases h0:(ck == 0) with
 | false=>exact plain0 ck L ct F cq ci X cg w h0
 | true =>
  cases Q:(L == 0) with
  | false=>exact plain1 ck L ct F cq ci X cg w h0 Q
  | true =>
   cases E:(ct == 0) with
   | false=>exact plain2 ck L ct F cq ci X cg w h0 Q E
   | true =>
    cases h3:(F == 0) with
    | false=>exact plain3 ck L ct F cq ci X cg w h0 Q E h3
    | true =>
     cases h4:(cq == 0) with
     | false=>exact plain4 ck L ct F cq ci X cg w h0 Q E h3 h4
     | true =>
      cases h5:(ci == 0) with
      | false=>exact plain5 ck L ct F cq ci X cg w h0 Q E h3 h4 h5
      | true =>
       have efb:(fbit X == 0) = (((fbit X:Nat):Int) == 0):=by rw [Bool.eq_iff_iff]; simp
       rw [efb]
       cases h6:(((fbit X:Nat):Int) == 0) with
       | false=>exact plain6 ck L ct F cq ci X cg w h0 Q E h3 h4 h5 h6
       | true =>
        have eg:decide (cg.toList = []) = (cg.toList == []):=by rw [Bool.eq_iff_iff]; simp
        rw [eg]
        cases h7:(cg.toList == []) with
        | false=>exact plain7 ck L ct F cq ci X cg w h0 Q E h3 h4 h5 h6 h7
        | true =>
         exact plain8 ck L ct F cq ci X cg w h0 Q E h3 h4 h5 h6 h7
def FlEnd (k:Int) (w:World) (e:Ending) (w':World):Prop:=∃ g,e = .returned (.slice (some (U g 0)) (fldK k).length (fldK k).length)∧w.heap.size ≤ g∧Bx w' g ((fldK k).map Value.bool)∧yn w w'
theorem cG (k:Int) (l:List Bool) (w:World) (t:TypeId) (h:fldK k = l):FlEnd k w (.returned (.slice (some (U w.heap.size 0)) l.length l.length)) (w.alloc (A (l.map Value.bool).toArray t)):=by
 subst h
 exact ⟨w.heap.size,rfl,Nat.le_refl _,zq w _ t,fE _ _⟩
theorem fields1 (w:World):Calls Tryz.prog 63 #[I 1] w fun e w'=>FlEnd 1 w e w':=by
 have HE:=M (cG 1 (fldK 1) w 4 rfl)
 go_enter Tryz.func63,Tryz.ntmps63
 go_wp2_with fail
 go_ret
 exact H HE
theorem fields2 (w:World):Calls Tryz.prog 63 #[I 2] w fun e w'=>FlEnd 2 w e w':=by
 have HE:=M (cG 2 (fldK 2) w 4 rfl)
 go_enter Tryz.func63,Tryz.ntmps63
 go_wp2_with fail
 go_ret
 exact H HE
theorem fields3 (w:World):Calls Tryz.prog 63 #[I 3] w fun e w'=>FlEnd 3 w e w':=by
 have HE:=M (cG 3 (fldK 3) w 4 rfl)
 go_enter Tryz.func63,Tryz.ntmps63
 go_wp2_with fail
 go_ret
 exact H HE
theorem fields4 (w:World):Calls Tryz.prog 63 #[I 4] w fun e w'=>FlEnd 4 w e w':=by
 have HE:=M (cG 4 (fldK 4) w 4 rfl)
 go_enter Tryz.func63,Tryz.ntmps63
 go_wp2_with fail
 go_ret
 exact H HE
theorem fields5 (w:World):Calls Tryz.prog 63 #[I 5] w fun e w'=>FlEnd 5 w e w':=by
 have HE:=M (cG 5 (fldK 5) w 4 rfl)
 go_enter Tryz.func63,Tryz.ntmps63
 go_wp2_with fail
 go_ret
 exact H HE
theorem fields6 (w:World):Calls Tryz.prog 63 #[I 6] w fun e w'=>FlEnd 6 w e w':=by
 have HE:=M (cG 6 (fldK 6) w 4 rfl)
 go_enter Tryz.func63,Tryz.ntmps63
 go_wp2_with fail
 go_ret
 exact H HE
theorem fields7 (w:World):Calls Tryz.prog 63 #[I 7] w fun e w'=>FlEnd 7 w e w':=by
 have HE:=M (cG 7 (fldK 7) w 4 rfl)
 go_enter Tryz.func63,Tryz.ntmps63
 go_wp2_with fail
 go_ret
 exact H HE
theorem fields8 (w:World):Calls Tryz.prog 63 #[I 8] w fun e w'=>FlEnd 8 w e w':=by
 have HE:=M (cG 8 (fldK 8) w 4 rfl)
 go_enter Tryz.func63,Tryz.ntmps63
 go_wp2_with fail
 go_ret
 exact H HE
theorem fields9 (w:World):Calls Tryz.prog 63 #[I 9] w fun e w'=>FlEnd 9 w e w':=by
 have HE:=M (cG 9 (fldK 9) w 4 rfl)
 go_enter Tryz.func63,Tryz.ntmps63
 go_wp2_with fail
 go_ret
 exact H HE
theorem fieldsN (k:Int) (w:World) (h:¬ (1 ≤ k∧k ≤ 9)):Calls Tryz.prog 63 #[I k] w fun e w'=>FlEnd k w e w':=by
 have HE:=M (cG k [] w 4 (by unfold fldK; rw [if_neg (by omega),if_neg (by omega),if_neg (by omega),if_neg (by omega),if_neg (by omega)]))
 have e1:(k == 1) = false:=xd.2 (by omega)
 have e2:(k == 2) = false:=xd.2 (by omega)
 have e3:(k == 3) = false:=xd.2 (by omega)
 have e4:(k == 4) = false:=xd.2 (by omega)
 have e5:(k == 5) = false:=xd.2 (by omega)
 have e6:(k == 6) = false:=xd.2 (by omega)
 have e7:(k == 7) = false:=xd.2 (by omega)
 have e8:(k == 8) = false:=xd.2 (by omega)
 have e9:(k == 9) = false:=xd.2 (by omega)
 clear h
 go_enter Tryz.func63,Tryz.ntmps63
 go_wp2_with fail
 go_ret
 exact H HE
theorem fields_any (k:Int) (w:World):Calls Tryz.prog 63 #[I k] w fun e w'=>FlEnd k w e w':=by
 by_cases h:1 ≤ k∧k ≤ 9
 ·rcases (show k = 1 ∨ k = 2 ∨ k = 3 ∨ k = 4 ∨ k = 5 ∨ k = 6 ∨ k = 7 ∨ k = 8 ∨ k = 9 by omega) with rfl | rfl | rfl | rfl | rfl | rfl | rfl | rfl | rfl
  ·exact fields1 w
  ·exact fields2 w
  ·exact fields3 w
  ·exact fields4 w
  ·exact fields5 w
  ·exact fields6 w
  ·exact fields7 w
  ·exact fields8 w
  ·exact fields9 w
 ·exact fieldsN k w h
theorem size_mk (w:World) (o:Obj):(w.alloc o).heap.size = w.heap.size + 1:=by simp
theorem numbers_any (e:Ev) (w:World):Calls Tryz.prog 64 #[evV e] w fun r w'=>∃ g,r = .returned (.slice (some (U g 0)) 5 5)∧w.heap.size ≤ g∧Bx w' g ((numsE e).map (I))∧yn w w':=by
 have HE:Hid (∀ w':World,yn w w'→∃ g,Ending.returned (.slice (some (U w'.heap.size 0)) 5 5) = .returned (.slice (some (U g 0)) 5 5)∧w.heap.size ≤ g∧Bx (w'.alloc (A ((numsE e).map (I)).toArray 3)) g ((numsE e).map (I))∧yn w (w'.alloc (A ((numsE e).map (I)).toArray 3))):=fun w' Y =>
  ⟨w'.heap.size,rfl,Y.size,zq w' _ _,Y.alloc Y.size _⟩
 have Y:=fE w (Obj.cells e.vs.toArray 52)
 have HB:=M Y
 obtain ⟨xm,⟨ck,L,ct,F,cq,ci,X,cg⟩,id,xi,qty,xj,xh⟩:=e
 unfold evV
 unfold numsE at HE ⊢
 unfold Ev.vs at HB
 simp only [List.map_cons,List.map_nil] at HE HB ⊢
 clear Y
 go_enter Tryz.func64,Tryz.ntmps64
 go_wp2_with fail
 go_ret
 have hf:=H HE _ (H HB)
 rw [size_mk] at hf
 exact hf
theorem fldK_len (k:Int):fldK k = [] ∨ (fldK k).length = 5:=by
 unfold fldK
 repeat' split
 all_goals simp
theorem fldK_no (k:Int) (h:¬ (1 ≤ k∧k ≤ 9)):fldK k = []:=by unfold fldK; rw [if_neg (by omega),if_neg (by omega),if_neg (by omega),if_neg (by omega),if_neg (by omega)]
theorem restK_no {fs:List Bool} {ns:List Int} {i:Nat} (h:i < 5) (Q:fs.getD i false = false) (E:(ns.getD i 0 == 0) = false):restK fs ns = false:=by
 unfold restK
 rw [List.all_eq_false]
 exact ⟨i,List.mem_range.2 h,by rw [Q,E]; decide⟩
theorem restK_yes {fs:List Bool} {ns:List Int} (h:∀ i,i < 5→(fs.getD i false || (ns.getD i 0 == 0)) = true):restK fs ns = true:=by
 unfold restK
 rw [List.all_eq_true]
 exact fun i hi=>h i (List.mem_range.1 hi)
theorem specOK_any (e:Ev) (w:World) (hg:e.cmd.g.size ≤ maxLen):Calls Tryz.prog 36 #[evV e] w fun r w'=>r = .returned (.bool (okE e))∧yn w w':=by
 unfold maxLen at hg
 obtain ⟨xz,uB⟩:=fJ w e.vs 52
 have qM:Hid ((w.alloc (Obj.cells e.vs.toArray 52)).heap.size = w.heap.size + 1):=by show _ = _; simp
 have ud:=M xz
 have HNM:=M (fun W=>numbers_any e W)
 have jt:=M (fun W=>plain_any e.cmd W)
 have HQ:=M (show okE e = if fldK e.kind = [] then false else if restK (fldK e.kind) (numsE e) = false then false else
  if e.kind = 1 then (e.cmd.k == 1) && ((e.cmd.i == 0) && decide (e.cmd.g.size ≤ 13)) else if e.kind = 2 then decide (e.cmd.g.size ≤ 13) else plainC e.cmd from rfl)
 generalize okE e = ok at *
 generalize hnl:numsE e = ns at *
 have hns:ns.length = 5:=by rw [← hnl]; rfl
 clear xz hnl
 generalize plainC e.cmd = pc at *
 obtain ⟨xm,⟨ck,L,ct,F,cq,ci,X,cg⟩,id,xi,qty,xj,xh⟩:=e
 unfold evV at HNM ⊢
 unfold cmV at jt
 unfold Ev.vs at uB qM ud
 simp only at HNM jt uB qM ud HQ hg ⊢
 go_enter Tryz.func36,Tryz.ntmps36
 refine fI fun hR xU=>?_
 go_wp2_with fail
 refine H xU _ _ ?_
 clear xU
 generalize (w.alloc (A (yv xm ck L ct F cq ci X cg id xi qty xj xh).toArray 52)) = W1 at uB qM ud ⊢
 have x0:=R (H uB) 0 rfl
 go_wp2_with fail
 refine (fields_any xm W1).mono ?_
 rintro r W2 ⟨g1,rfl,pV,hF,xJ⟩
 by_cases hk:fldK xm = []
 ·have pK:Hid (ok = false):=by rw [H HQ,if_pos hk]; exact rfl
  rw [hk]
  have xu:=M (fH (H ud) xJ)
  clear hF xJ
  go_wp2_with fail
  go_ret
  exact ⟨by rw [H pK]; rfl,H xu⟩
 have hl5:(fldK xm).length = 5:=(fldK_len xm).resolve_left hk
 rw [if_neg hk] at HQ
 have hk19:1 ≤ xm∧xm ≤ 9:=by
  rcases Classical.em (1 ≤ xm∧xm ≤ 9) with h | h
  ·exact h
  ·exact absurd (fldK_no xm h) hk
 rw [hl5]
 have jv:=zg (H uB) xJ (by rw [H qM]; omega)
 have uF:w.heap.size < W2.heap.size:=by have:=xJ.size; rw [H qM] at this; omega
 obtain ⟨z0,z1,z2,z3,z4,z5,z6,z7,z8,z9,kX,oz,oA,oB⟩:=yy (jv)
 have xH:=M jv
 have vC:=M hF
 have xu:=M (fH (H ud) xJ)
 clear jv hF xJ x0 uB qM ud
 generalize hfs:fldK xm = fs at *
 clear hfs
 go_wp2_with fail
 refine (H HNM W2).mono ?_
 rintro r W3 ⟨g2,rfl,uZ,hN,xM⟩
 have hFg:g1 < W2.heap.size:=by
  obtain ⟨y,hy⟩:=Option.isSome_iff_exists.1 ((H vC).t 0 (by simp; omega)).1
  exact yK W2 _ hy
 have HF3:=M (zg (H vC) xM hFg)
 have ko:=zg (H xH) xM uF
 have xL:=M (fH (H xu) xM)
 have oF:=M hN
 have uC:=M ko
 clear hN xM z0 z1 z2 z3 z4 z5 z6 z7 z8 z9 kX oz oA oB xH vC xu ko
 go_wp2_with fail
 go_loop [5] (fun iv=>∃ i:Nat,i ≤ 5∧iv = I i∧∀ j,j < i→(fs.getD j false || (ns.getD j 0 == 0)) = true) (fun iv=>5 - (intOf iv).toNat)
 case atStart=>exact ⟨0,by omega,rfl,fun j O=>by omega⟩
 case round =>
  obtain ⟨i,hi,rfl,D⟩:=hrel
  have HA:=M D
  clear D
  by_cases xI:i < 5
  ·have hf:W3.cell? (U g1 i) = some (.bool (fs.getD i false)):=R (H HF3) i (by rw [List.getElem?_map,yH (by omega)]; simp [List.getD,show i < fs.length by omega])
   have hn:W3.cell? (U g2 i) = some (I (ns.getD i 0)):=R (H oF) i (by rw [List.getElem?_map,yH (by omega)]; simp [List.getD,show i < ns.length by omega])
   have uJ:(i:Int) < 5:=by omega
   have HS:Hid ((fs.getD i false || (ns.getD i 0 == 0)) = true→∀ j,j < i + 1→(fs.getD j false || (ns.getD j 0 == 0)) = true):=fun h j O=>by
    rcases Nat.lt_or_ge j i with Q | Q
    ·exact H HA j Q
    ·obtain rfl:j = i:=by omega
     exact h
   have HNo:=M (fun Q E=>restK_no (fs:=fs) (ns:=ns) (i:=i) xI Q E)
   generalize fs.getD i false = fb at *
   generalize ns.getD i 0 = nn at *
   cases fb with
   | true =>
    go_wp2_with fail
    go_round
    case rel=>exact ⟨i + 1,by omega,by go_num,H HS rfl⟩
    case measure=>simp [intOf]; omega
   | false =>
    cases hnn:nn == 0 with
    | true =>
     have hn2:(nn != 0) = false:=by rw [bne,hnn]; rfl
     have jB:=M (H HS (by rw [hnn]; rfl))
     clear hnn HNo
     go_wp2_with fail
     go_round
     case rel=>exact ⟨i + 1,by omega,by go_num,H jB⟩
     case measure=>simp [intOf]; omega
    | false =>
     have hn2:(nn != 0) = true:=by rw [bne,hnn]; rfl
     have jW:Hid (ok = false):=by rw [H HQ,if_pos (H HNo rfl hnn)]; exact rfl
     clear hnn HNo HS
     go_wp2_with fail
     go_ret
     exact ⟨by rw [H jW]; rfl,H xL⟩
  ·have hrest:=restK_yes (fs:=fs) (ns:=ns) (fun j O=>H HA j (by omega))
   rw [hrest,if_neg (by decide)] at HQ
   obtain ⟨y0,y1,y2,y3,y4,y5,y6,y7,y8,y9,y10,y11,y12,y13⟩:=yy (H uC)
   clear hrest HA HF3 oF
   have hdz:decide (cg.size ≤ 13) = decide ((cg.size:Int) ≤ 13):=by
    rw [decide_eq_decide]; omega
   by_cases hk1:xm = 1
   ·rw [if_pos hk1,hdz] at HQ
    have e1:(xm == 1) = true:=by rw [hk1]; rfl
    clear hk1 hk19
    cases Q:ck == 1 with
    | false =>
     rw [Q,Bool.false_and] at HQ
     go_wp2_with fail
     go_ret
     exact ⟨by rw [H HQ]; rfl,H xL⟩
    | true =>
     rw [Q,Bool.true_and] at HQ
     cases E:ci == 0 with
     | false =>
      rw [E,Bool.false_and] at HQ
      go_wp2_with fail
      go_ret
      exact ⟨by rw [H HQ]; rfl,H xL⟩
     | true =>
      rw [E,Bool.true_and] at HQ
      go_wp2_with fail
      go_ret
      exact ⟨by rw [H HQ]; rfl,H xL⟩
   ·rw [if_neg hk1] at HQ
    have e1:(xm == 1) = false:=by simpa using hk1
    by_cases pX:xm = 2
    ·rw [if_pos pX,hdz] at HQ
     have e2:(xm == 2) = true:=by rw [pX]; rfl
     clear hk1 pX hk19
     go_wp2_with fail
     go_ret
     exact ⟨by rw [H HQ]; rfl,H xL⟩
    ·rw [if_neg pX] at HQ
     have e2:(xm == 2) = false:=by simpa using pX
     clear hk1 pX hk19
     go_wp2_with fail
     refine (H jt W3).mono ?_
     rintro r W4 ⟨rfl,xw⟩
     have xG:=M (fH (H xL) xw)
     clear xw
     go_wp2_with fail
     go_ret
     exact ⟨by rw [H HQ]; rfl,H xG⟩
end Go.Proofs.YtnphbkgfjanmgaaGreatDoor
