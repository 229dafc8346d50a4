/-
  Whether a book is right, as the model says it: proved by walking the function. (what walks the functions of the model or of the laws)
-/
import Derived.Test.YtnphbkgfjanmgaaGreatDoorDj31
set_option linter.unusedVariables false
set_option maxHeartbeats 6400000
set_option maxRecDepth 100000
namespace Go.Proofs.YtnphbkgfjanmgaaGreatDoor
open Go.RowKit
theorem specBookOK_any (next:Int) (v:Value) (l:List Od) (w:World) (hr:RdR Od.vs 6 w v l) (hg:∀ c ∈ l,c.tag.size ≤ maxLen) :
  Calls Tryz.prog 25 #[.agg #[I next,v]] w fun e w'=>e = .returned (.bool (okS next l))∧yp w w':=by
 have HR:=H hr
 have HGG:=H hg
 obtain ⟨a,cap,rfl,xA,hc⟩:=hr
 have xt:∀ (k:Nat) (c:Od),l[k]? = some c→∃ b off,a = some (Q b off)∧b < w.heap.size∧w.rangeAt b (off + k * 6) c.vs:=by
  intro k c hk
  obtain ⟨b,off,N,Y,h3⟩:=hc (by intro h; rw [h] at hk; simp at hk)
  exact ⟨b,off,N,Y,h3 k c hk⟩
 have HC:=H xt
 clear xt hc hg
 have xW:Hid (yp w (w.alloc (L #[I next,.slice a l.length cap] 34))):=fw _ _
 have kA:=zn w [I next,.slice a l.length cap] 34
 have HX:Hid (World.rangeAt (w.alloc (L #[I next,.slice a l.length cap] 34)) w.heap.size 0 [I next,.slice a l.length cap]∧w.heap.size < (w.alloc (L #[I next,.slice a l.length cap] 34)).heap.size):=⟨kA,by rw [zj]; omega⟩
 clear kA
 cases N:betB next 1 1000000
 ·go_enter Tryz.func25,Tryz.ntmps25
  go_wp2_with fail
  refine (bJ next 1 1000000 _).mono ?_
  rintro e w1 ⟨rfl,rfl⟩
  go_wp2_with fail
  go_ret
  exact ⟨zp (by simp [okS,N]),U xW⟩
 by_cases Y:l.length ≤ 20
 rotate_left
 ·have oE:(20:Int) < l.length:=by omega
  go_enter Tryz.func25,Tryz.ntmps25
  go_wp2_with fail
  refine (bJ next 1 1000000 _).mono ?_
  rintro e w1 ⟨rfl,rfl⟩
  go_wp2_with fail
  go_ret
  exact ⟨zp (by simp [okS,N,Y]),U xW⟩
 have oE:¬ ((20:Int) < l.length):=by omega
 go_enter Tryz.func25,Tryz.ntmps25
 go_wp2_with fail
 refine (bJ next 1 1000000 _).mono ?_
 rintro e w1 ⟨rfl,rfl⟩
 go_wp2_with fail
 generalize (w.alloc (L #[I next,.slice a l.length cap] 34)) = W1 at xW HX ⊢
 have hsw:=(U HX).2
 go_loopw [3] (fun iv wr=>∃ (i:Nat) (last:Int),i ≤ l.length∧iv = I i∧Hid (allR next 0 l = allR next last (l.drop i))∧0 ≤ last∧(i = 0→last = 0)∧(∀ j,i = j + 1→∃ p,l[j]? = some p∧p.id = last)∧yp W1 wr) (fun iv _=>l.length - (intOf iv).toNat)
 case atStart=>exact ⟨0,0,Nat.zero_le _,rfl,rfl,Int.le_refl _,fun _=>rfl,fun j V=>by omega,Below.refl _ _⟩
 case round =>
  obtain ⟨i,last,hi,rfl,D,jH,hz,hp,xl⟩:=hrel
  have HB:=H xl
  have HP:=H hp
  have hbox:=zc (U HX).1 xl hsw
  have x0:wr.cell? (Q w.heap.size 0) = some (I next):=hbox 0 _ rfl
  have x1:wr.cell? (Q w.heap.size 1) = some (.slice a l.length cap):=hbox 1 _ rfl
  have HBOX:=H hbox
  clear xl hp hbox
  by_cases xJ:i < l.length
  ·obtain ⟨c,ur⟩:∃ c,l[i]? = some c:=⟨_,yI xJ⟩
   have qZ:l.drop i = c :: l.drop (i + 1):=by
    obtain ⟨N,rfl⟩:=yH.1 ur
    exact xd N
   have HI:Hid (allR next 0 l = (ordB c && decide (last < c.id) && decide (c.id < next) && allR next c.id (l.drop (i + 1)))):=by
    have:=U D
    rw [qZ] at this
    exact this
   obtain ⟨b,off,rfl,E,X⟩:=U HC i c ur
   have hb01:=(U xW).trans ((U HB).mono (U xW).size)
   obtain ⟨g0,g1,g2,g3,g4,g5⟩:=zB (zc X hb01 E)
   have HS:=H (U HGG c (yP ur))
   have jK:=H ur
   have uF:(i:Int) < l.length:=by omega
   have pf:=(U HB).size
   have kV:=H hb01
   clear ur X qZ D hb01
   go_wp2_with fail
   generalize hW4:(wr.alloc (L (yx c.id c.side c.ticks c.left c.life c.tag).toArray 78)) = W4
   have kn:Hid (W4.rangeAt wr.heap.size 0 c.vs∧W4.rangeAt w.heap.size 0 [I next,.slice (some (Q b off)) l.length cap]∧yp W1 W4∧W4.heap.size = wr.heap.size + 1∧yp wr W4):=by
    subst hW4
    have hbb:=fw wr (L (yx c.id c.side c.ticks c.left c.life c.tag).toArray 78)
    exact ⟨zn wr c.vs _,zc (U HBOX) hbb (by omega),(U HB).alloc pf _,zj _ _,hbb⟩
   have qN:Hid (∀ w',W4.grownBy w' none→w'.rangeAt wr.heap.size 0 c.vs∧w'.rangeAt w.heap.size 0 [I next,.slice (some (Q b off)) l.length cap]):=fun w' h' =>
    ⟨zx (U kn).1 h' (by rw [(U kn).2.2.2.1]; omega) (by simp),zx (U kn).2.1 h' (by rw [(U kn).2.2.2.1]; omega) (by simp)⟩
   have HPREV:Hid (∀ j p,i = j + 1→l[j]? = some p→∀ w',W4.grownBy w' none→w'.rangeAt b (off + j * 6) p.vs):=fun j p V hpj w' h'=>by
    obtain ⟨b',qr,jF,hb',qp⟩:=U HC j p hpj
    simp only [Option.some.injEq,Addr.mk.injEq,and_true] at jF
    obtain ⟨rfl,rfl⟩:=jF
    exact zx (zc (zc qp (U kV) E) (U kn).2.2.2.2 (yK E (U kV).size)) h' (by rw [(U kn).2.2.2.1]; have:=(U kV).size; omega) (by simp)
   have HORD:Hid (∀ W,Calls Tryz.prog 48 #[.agg (yx c.id c.side c.ticks c.left c.life c.tag).toArray] W fun e w'=>e = .returned (.bool (ordB c))∧W.grownBy w' none):=fun W=>(l03Order_any c W (U HS)).mono fun e w' h=>⟨h.1,cD h.2 yb⟩
   clear hW4 g0 g1 g2 g3 g4 g5 x0 x1
   haveI:=gw_ne W4
   have k0:∀ u:GW W4,u.val.cell? (Q wr.heap.size 0) = some (I c.id):=fun u=>(U qN u.val u.property).1 0 _ rfl
   have k1:∀ u:GW W4,u.val.cell? (Q wr.heap.size 1) = some (I c.side):=fun u=>(U qN u.val u.property).1 1 _ rfl
   have k2:∀ u:GW W4,u.val.cell? (Q wr.heap.size 2) = some (I c.ticks):=fun u=>(U qN u.val u.property).1 2 _ rfl
   have k3:∀ u:GW W4,u.val.cell? (Q wr.heap.size 3) = some (I c.left):=fun u=>(U qN u.val u.property).1 3 _ rfl
   have k4:∀ u:GW W4,u.val.cell? (Q wr.heap.size 4) = some (I c.life):=fun u=>(U qN u.val u.property).1 4 _ rfl
   have k5:∀ u:GW W4,u.val.cell? (Q wr.heap.size 5) = some (yl c.tag):=fun u=>(U qN u.val u.property).1 5 _ rfl
   have m0:∀ u:GW W4,u.val.cell? (Q w.heap.size 0) = some (I next):=fun u=>(U qN u.val u.property).2 0 _ rfl
   have m1:∀ u:GW W4,u.val.cell? (Q w.heap.size 1) = some (.slice (some (Q b off)) l.length cap):=fun u=>(U qN u.val u.property).2 1 _ rfl
   cases Z:ordB c
   ·have HN:Hid (allR next 0 l = false):=by
     show _ = _
     rw [U HI,Z]; simp
    refine dJ (W:=W4) (by kernel_rfl) (by kernel_rfl) (yS _ _) ?_
    repeat (go_big_quiet_step ((rename_i u; refine (U HORD u.val).mono ?_; rintro e w3 ⟨rfl,uD⟩; exact ⟨rfl,⟨w3,u.property.trans uD⟩,rfl⟩)))
    refine wpQuiet_nil ?_
    rintro _ ⟨⟨w5,ja⟩,rfl⟩
    have uj:=H ((U kn).2.2.1.grown ja (by rw [(U kn).2.2.2.1]; omega) (fun g hg=>by cases hg))
    clear ja
    go_wp2_with fail
    go_ret
    exact ⟨zp (by rw [okS,U HN]; simp),(U xW).trans ((U uj).mono (U xW).size)⟩
   by_cases jn:c.id < 1
   ·have qb:¬ last < c.id:=by omega
    have hd1:decide (c.id < 1) = true:=by simpa using jn
    have HN:Hid (allR next 0 l = false):=by
     show _ = _
     rw [U HI,decide_eq_false qb]; simp
    refine dJ (W:=W4) (by kernel_rfl) (by kernel_rfl) (yS _ _) ?_
    repeat (go_big_quiet_step ((rename_i u; refine (U HORD u.val).mono ?_; rintro e w3 ⟨rfl,uD⟩; exact ⟨rfl,⟨w3,u.property.trans uD⟩,rfl⟩)))
    refine wpQuiet_nil ?_
    rintro _ ⟨⟨w5,ja⟩,rfl⟩
    have uj:=H ((U kn).2.2.1.grown ja (by rw [(U kn).2.2.2.1]; omega) (fun g hg=>by cases hg))
    clear ja
    go_wp2_with fail
    go_ret
    exact ⟨zp (by rw [okS,U HN]; simp),(U xW).trans ((U uj).mono (U xW).size)⟩
   have hd1:decide (c.id < 1) = false:=by simpa using jn
   by_cases hcn:c.id < next
   rotate_left
   ·have hd2:decide (next ≤ c.id) = true:=by simp; omega
    have HN:Hid (allR next 0 l = false):=by
     show _ = _
     rw [U HI,decide_eq_false hcn]; simp
    refine dJ (W:=W4) (by kernel_rfl) (by kernel_rfl) (yS _ _) ?_
    repeat (go_big_quiet_step ((rename_i u; refine (U HORD u.val).mono ?_; rintro e w3 ⟨rfl,uD⟩; exact ⟨rfl,⟨w3,u.property.trans uD⟩,rfl⟩)))
    refine wpQuiet_nil ?_
    rintro _ ⟨⟨w5,ja⟩,rfl⟩
    have uj:=H ((U kn).2.2.1.grown ja (by rw [(U kn).2.2.2.1]; omega) (fun g hg=>by cases hg))
    clear ja
    go_wp2_with fail
    go_ret
    exact ⟨zp (by rw [okS,U HN]; simp),(U xW).trans ((U uj).mono (U xW).size)⟩
   have hd2:decide (next ≤ c.id) = false:=by simpa using hcn
   cases i with
   | zero =>
    have qb:last < c.id:=by have:=hz rfl; omega
    have HN:Hid (allR next 0 l = allR next c.id (l.drop (0 + 1))):=by
     show _ = _
     rw [U HI,Z,decide_eq_true qb,decide_eq_true hcn]; rfl
    refine dJ (W:=W4) (by kernel_rfl) (by kernel_rfl) (yS _ _) ?_
    repeat (go_big_quiet_step ((rename_i u; refine (U HORD u.val).mono ?_; rintro e w3 ⟨rfl,uD⟩; exact ⟨rfl,⟨w3,u.property.trans uD⟩,rfl⟩)))
    refine wpQuiet_nil ?_
    rintro _ ⟨⟨w5,ja⟩,rfl⟩
    have uj:=H ((U kn).2.2.1.grown ja (by rw [(U kn).2.2.2.1]; omega) (fun g hg=>by cases hg))
    clear ja
    go_wp2_with fail
    go_roundw
    case rel=>exact ⟨0 + 1,c.id,by omega,by go_num,U HN,by omega,fun h=>by omega,fun j' hj'=>⟨c,by rw [show j' = 0 by omega]; exact U jK,rfl⟩,U uj⟩
    case measure=>simp [intOf]; omega
   | succ j =>
    obtain ⟨p,hpj,uM⟩:=U HP j rfl
    have q0:∀ u:GW W4,u.val.cell? (Q b (off + j * 6)) = some (I p.id):=fun u=>(zB (U HPREV j p rfl hpj u.val u.property)).1
    have aG:((j + 1:Nat):Int) = (j:Int) + 1:=by omega
    have hjl:(j:Int) < l.length:=by omega
    have hwj:IntKind.i64.wrap ((j:Int) + 1 - 1) = (j:Int):=by rw [IntKind.wrap_i64]; omega
    have qJ:decide ((0:Int) < (j:Int) + 1) = true:=by rw [xg]; omega
    clear hpj
    by_cases qb:last < c.id
    ·have pR:decide (c.id ≤ p.id) = false:=by rw [uM]; simpa using qb
     have HN:Hid (allR next 0 l = allR next c.id (l.drop ((j + 1) + 1))):=by
      show _ = _
      rw [U HI,Z,decide_eq_true qb,decide_eq_true hcn]; rfl
     refine dJ (W:=W4) (by kernel_rfl) (by kernel_rfl) (yS _ _) ?_
     repeat (go_big_quiet_step ((rename_i u; refine (U HORD u.val).mono ?_; rintro e w3 ⟨rfl,uD⟩; exact ⟨rfl,⟨w3,u.property.trans uD⟩,rfl⟩)))
     refine wpQuiet_nil ?_
     rintro _ ⟨⟨w5,ja⟩,rfl⟩
     have uj:=H ((U kn).2.2.1.grown ja (by rw [(U kn).2.2.2.1]; omega) (fun g hg=>by cases hg))
     clear ja
     go_wp2_with fail
     go_roundw
     case rel=>exact ⟨(j + 1) + 1,c.id,by omega,by go_num,U HN,by omega,fun h=>by omega,fun j' hj'=>⟨c,by rw [show j' = (j + 1) by omega]; exact U jK,rfl⟩,U uj⟩
     case measure=>simp [intOf]; omega
    ·have pR:decide (c.id ≤ p.id) = true:=by rw [uM]; simpa using qb
     have HN:Hid (allR next 0 l = false):=by
      show _ = _
      rw [U HI,decide_eq_false qb]; simp
     refine dJ (W:=W4) (by kernel_rfl) (by kernel_rfl) (yS _ _) ?_
     repeat (go_big_quiet_step ((rename_i u; refine (U HORD u.val).mono ?_; rintro e w3 ⟨rfl,uD⟩; exact ⟨rfl,⟨w3,u.property.trans uD⟩,rfl⟩)))
     refine wpQuiet_nil ?_
     rintro _ ⟨⟨w5,ja⟩,rfl⟩
     have uj:=H ((U kn).2.2.1.grown ja (by rw [(U kn).2.2.2.1]; omega) (fun g hg=>by cases hg))
     clear ja
     go_wp2_with fail
     go_ret
     exact ⟨zp (by rw [okS,U HN]; simp),(U xW).trans ((U uj).mono (U xW).size)⟩
  ·have hallT:allR next 0 l = true:=by
    have h:=U D
    rw [xb (by omega)] at h
    rw [h]; rfl
   have HALL:=H hallT
   have HRI:=H (eu hallT).1
   have kV:=H ((U xW).trans ((U HB).mono (U xW).size))
   have HRr:=H (zh (U HR) (U kV) yb)
   have pf:w.heap.size < wr.heap.size:=yK hsw (U HB).size
   clear D hallT
   go_wp2_with fail
   refine (l03Levels_any _ l wr (U HRr) (by omega)).mono ?_
   rintro e w3 ⟨rfl,uD⟩
   have vi:=H uD
   have z1:w3.cell? (Q w.heap.size 1) = some (.slice a l.length cap):=uD.cell x1 (by simp)
   have ax:=H (rdR_grown (U HRr) uD (fun g hg=>by cases hg))
   clear uD x0 x1
   by_cases h8:nlev l ≤ 8
   rotate_left
   ·have h8':(8:Int) < (nlev l:Nat):=by omega
    go_wp2_with fail
    go_ret
    refine ⟨zp (by simp [okS,h8]),?_⟩
    exact (U kV).trans ((dM (U vi) (fun g hg=>by cases hg) yb).mono (U kV).size)
   have h8':¬ ((8:Int) < (nlev l:Nat)):=by omega
   have HOK:Hid (okS next l = noX l):=by
    show _ = _
    rw [okS,N,decide_eq_true Y,U HALL,decide_eq_true h8]; rfl
   go_wp2_with fail
   refine (er _ l 1 w3 (U ax) (U HRI) (by omega)).mono ?_
   rintro e w4 ⟨kb,rfl,oH,kJ⟩
   have ut:=H ((U vi).trans kJ)
   have y1:w4.cell? (Q w.heap.size 1) = some (.slice a l.length cap):=kJ.cell z1 (by simp)
   have HR4:=H (rdR_grown (U ax) kJ (fun g hg=>by cases hg))
   have HF1:=H oH
   clear kJ oH z1
   go_wp2_with fail
   refine (er _ l 2 w4 (U HR4) (U HRI) (by omega)).mono ?_
   rintro e w5 ⟨ks,rfl,hf2,ja⟩
   have uC:=H ((U ut).trans ja)
   have v1:w5.cell? (Q w.heap.size 1) = some (.slice a l.length cap):=ja.cell y1 (by simp)
   have vC:=H hf2
   have vp:=H ((U kV).trans ((dM (U uC) (fun g hg=>by cases hg) yb).mono (U kV).size))
   clear ja hf2 y1
   rcases frPre_end (U HF1) with ⟨rfl,hno1⟩ | ⟨ib,ob,rfl,hib,oI⟩
   ·have HN:=H (noX_none1 hno1)
    clear hno1
    go_wp2_with fail
    go_quiet (fail)
    go_wp2_with fail
    go_ret
    exact ⟨zp (by rw [U HOK,U HN]),⟨(U vp).os,(U vp).tape,(U vp).output,(U vp).size,(U vp).block⟩⟩
   have hib0:decide ((ib:Int) < 0) = false:=by simp
   rcases frPre_end (U vC) with ⟨rfl,hno2⟩ | ⟨is,os,rfl,his,hfs⟩
   ·have HN:=H (noX_none2 hno2)
    clear hno2
    go_wp2_with fail
    go_quiet (fail)
    go_wp2_with fail
    go_ret
    exact ⟨zp (by rw [U HOK,U HN]),⟨(U vp).os,(U vp).tape,(U vp).output,(U vp).size,(U vp).block⟩⟩
   have his0:decide ((is:Int) < 0) = false:=by simp
   have HN:=H (noX_fronts oI hfs)
   obtain ⟨b,off,rfl,E,hcb⟩:=U HC ib ob oI.1
   obtain ⟨b',qr,jF,hb',kp⟩:=U HC is os hfs.1
   simp only [Option.some.injEq,Addr.mk.injEq,and_true] at jF
   obtain ⟨rfl,rfl⟩:=jF
   obtain ⟨-,-,t1,-⟩:=zB (zc hcb (U vp) E)
   obtain ⟨-,-,t2,-⟩:=zB (zc kp (U vp) E)
   have hib':(ib:Int) < l.length:=by omega
   have his':(is:Int) < l.length:=by omega
   clear oI hfs hcb kp
   go_wp2_with fail
   go_quiet (fail)
   go_wp2_with fail
   go_ret
   exact ⟨zp (by rw [U HOK,U HN]),⟨(U vp).os,(U vp).tape,(U vp).output,(U vp).size,(U vp).block⟩⟩
theorem plain0 (ck A ct F cq ci:Int) (O:Nat) (cg:ByteArray) (w:World) (h0:(ck == 0) = false):Calls Tryz.prog 65 #[.agg (yy ck A ct F cq ci O cg).toArray] w fun e w'=>e = .returned (.bool false)∧yp w w':=by
 go_enter Tryz.func65,Tryz.ntmps65
 go_wp2_with fail
 go_ret
 exact ⟨rfl,by go_grown⟩
theorem plain1 (ck A ct F cq ci:Int) (O:Nat) (cg:ByteArray) (w:World) (h0:(ck == 0) = true) (N:(A == 0) = false):Calls Tryz.prog 65 #[.agg (yy ck A ct F cq ci O cg).toArray] w fun e w'=>e = .returned (.bool false)∧yp w w':=by
 go_enter Tryz.func65,Tryz.ntmps65
 go_wp2_with fail
 go_ret
 exact ⟨rfl,by go_grown⟩
theorem plain2 (ck A ct F cq ci:Int) (O:Nat) (cg:ByteArray) (w:World) (h0:(ck == 0) = true) (N:(A == 0) = true) (Y:(ct == 0) = false):Calls Tryz.prog 65 #[.agg (yy ck A ct F cq ci O cg).toArray] w fun e w'=>e = .returned (.bool false)∧yp w w':=by
 go_enter Tryz.func65,Tryz.ntmps65
 go_wp2_with fail
 go_ret
 exact ⟨rfl,by go_grown⟩
theorem plain3 (ck A ct F cq ci:Int) (O:Nat) (cg:ByteArray) (w:World) (h0:(ck == 0) = true) (N:(A == 0) = true) (Y:(ct == 0) = true) (h3:(F == 0) = false):Calls Tryz.prog 65 #[.agg (yy ck A ct F cq ci O cg).toArray] w fun e w'=>e = .returned (.bool false)∧yp w w':=by
 go_enter Tryz.func65,Tryz.ntmps65
 go_wp2_with fail
 go_ret
 exact ⟨rfl,by go_grown⟩
theorem plain4 (ck A ct F cq ci:Int) (O:Nat) (cg:ByteArray) (w:World) (h0:(ck == 0) = true) (N:(A == 0) = true) (Y:(ct == 0) = true) (h3:(F == 0) = true) (h4:(cq == 0) = false):Calls Tryz.prog 65 #[.agg (yy ck A ct F cq ci O cg).toArray] w fun e w'=>e = .returned (.bool false)∧yp w w':=by
 go_enter Tryz.func65,Tryz.ntmps65
 go_wp2_with fail
 go_ret
 exact ⟨rfl,by go_grown⟩
theorem plain5 (ck A ct F cq ci:Int) (O:Nat) (cg:ByteArray) (w:World) (h0:(ck == 0) = true) (N:(A == 0) = true) (Y:(ct == 0) = true) (h3:(F == 0) = true) (h4:(cq == 0) = true) (h5:(ci == 0) = false):Calls Tryz.prog 65 #[.agg (yy ck A ct F cq ci O cg).toArray] w fun e w'=>e = .returned (.bool false)∧yp w w':=by
 go_enter Tryz.func65,Tryz.ntmps65
 go_wp2_with fail
 go_ret
 exact ⟨rfl,by go_grown⟩
theorem plain6 (ck A ct F cq ci:Int) (O:Nat) (cg:ByteArray) (w:World) (h0:(ck == 0) = true) (N:(A == 0) = true) (Y:(ct == 0) = true) (h3:(F == 0) = true) (h4:(cq == 0) = true) (h5:(ci == 0) = true) (h6:(((fbit O:Nat):Int) == 0) = false):Calls Tryz.prog 65 #[.agg (yy ck A ct F cq ci O cg).toArray] w fun e w'=>e = .returned (.bool false)∧yp w w':=by
 go_enter Tryz.func65,Tryz.ntmps65
 go_wp2_with (go_at_call 103; refine (bitsS_any O _).mono ?_; rintro e w' ⟨rfl,rfl⟩)
 go_ret
 exact ⟨rfl,by go_grown⟩
theorem plain7 (ck A ct F cq ci:Int) (O:Nat) (cg:ByteArray) (w:World) (h0:(ck == 0) = true) (N:(A == 0) = true) (Y:(ct == 0) = true) (h3:(F == 0) = true) (h4:(cq == 0) = true) (h5:(ci == 0) = true) (h6:(((fbit O:Nat):Int) == 0) = true) (h7:(cg.toList == []) = false):Calls Tryz.prog 65 #[.agg (yy ck A ct F cq ci O cg).toArray] w fun e w'=>e = .returned (.bool false)∧yp w w':=by
 go_enter Tryz.func65,Tryz.ntmps65
 go_wp2_with (go_at_call 103; refine (bitsS_any O _).mono ?_; rintro e w' ⟨rfl,rfl⟩)
 go_ret
 exact ⟨rfl,by go_grown⟩
theorem plain8 (ck A ct F cq ci:Int) (O:Nat) (cg:ByteArray) (w:World) (h0:(ck == 0) = true) (N:(A == 0) = true) (Y:(ct == 0) = true) (h3:(F == 0) = true) (h4:(cq == 0) = true) (h5:(ci == 0) = true) (h6:(((fbit O:Nat):Int) == 0) = true) (h7:(cg.toList == []) = true):Calls Tryz.prog 65 #[.agg (yy ck A ct F cq ci O cg).toArray] w fun e w'=>e = .returned (.bool true)∧yp w w':=by
 go_enter Tryz.func65,Tryz.ntmps65
 go_wp2_with (go_at_call 103; refine (bitsS_any O _).mono ?_; rintro e w' ⟨rfl,rfl⟩)
 go_ret
 exact ⟨rfl,by go_grown⟩
theorem plain_any (c:Cm) (w:World):Calls Tryz.prog 65 #[cmV c] w fun e w'=>e = .returned (.bool (plainC c))∧yp w w':=by
 obtain ⟨ck,A,ct,F,cq,ci,O,cg⟩:=c
 unfold cmV plainC
 simp only
 cases h0:(ck == 0) with
 | false=>exact plain0 ck A ct F cq ci O cg w h0
 | true =>
  cases N:(A == 0) with
  | false=>exact plain1 ck A ct F cq ci O cg w h0 N
  | true =>
   cases Y:(ct == 0) with
   | false=>exact plain2 ck A ct F cq ci O cg w h0 N Y
   | true =>
    cases h3:(F == 0) with
    | false=>exact plain3 ck A ct F cq ci O cg w h0 N Y h3
    | true =>
     cases h4:(cq == 0) with
     | false=>exact plain4 ck A ct F cq ci O cg w h0 N Y h3 h4
     | true =>
      cases h5:(ci == 0) with
      | false=>exact plain5 ck A ct F cq ci O cg w h0 N Y h3 h4 h5
      | true =>
       have efb:(fbit O == 0) = (((fbit O:Nat):Int) == 0):=by rw [Bool.eq_iff_iff]; simp
       rw [efb]
       cases h6:(((fbit O:Nat):Int) == 0) with
       | false=>exact plain6 ck A ct F cq ci O cg w h0 N Y h3 h4 h5 h6
       | true =>
        have eg:decide (cg.toList = []) = (cg.toList == []):=by rw [Bool.eq_iff_iff]; simp
        rw [eg]
        cases h7:(cg.toList == []) with
        | false=>exact plain7 ck A ct F cq ci O cg w h0 N Y h3 h4 h5 h6 h7
        | true =>
         exact plain8 ck A ct F cq ci O cg w h0 N Y h3 h4 h5 h6 h7
def FlEnd (k:Int) (w:World) (e:Ending) (w':World):Prop:=∃ g,e = .returned (.slice (some (Q g 0)) (fldK k).length (fldK k).length)∧w.heap.size ≤ g∧Bx w' g ((fldK k).map Value.bool)∧yp w w'
theorem cz (k:Int) (l:List Bool) (w:World) (t:TypeId) (h:fldK k = l):FlEnd k w (.returned (.slice (some (Q w.heap.size 0)) l.length l.length)) (w.alloc (L (l.map Value.bool).toArray t)):=by
 subst h
 exact ⟨w.heap.size,rfl,Nat.le_refl _,zq w _ t,fw _ _⟩
theorem fields1 (w:World):Calls Tryz.prog 63 #[I 1] w fun e w'=>FlEnd 1 w e w':=by
 have HE:=H (cz 1 (fldK 1) w 4 rfl)
 go_enter Tryz.func63,Tryz.ntmps63
 go_wp2_with fail
 go_ret
 exact U HE
theorem fields2 (w:World):Calls Tryz.prog 63 #[I 2] w fun e w'=>FlEnd 2 w e w':=by
 have HE:=H (cz 2 (fldK 2) w 4 rfl)
 go_enter Tryz.func63,Tryz.ntmps63
 go_wp2_with fail
 go_ret
 exact U HE
theorem fields3 (w:World):Calls Tryz.prog 63 #[I 3] w fun e w'=>FlEnd 3 w e w':=by
 have HE:=H (cz 3 (fldK 3) w 4 rfl)
 go_enter Tryz.func63,Tryz.ntmps63
 go_wp2_with fail
 go_ret
 exact U HE
theorem fields4 (w:World):Calls Tryz.prog 63 #[I 4] w fun e w'=>FlEnd 4 w e w':=by
 have HE:=H (cz 4 (fldK 4) w 4 rfl)
 go_enter Tryz.func63,Tryz.ntmps63
 go_wp2_with fail
 go_ret
 exact U HE
theorem fields5 (w:World):Calls Tryz.prog 63 #[I 5] w fun e w'=>FlEnd 5 w e w':=by
 have HE:=H (cz 5 (fldK 5) w 4 rfl)
 go_enter Tryz.func63,Tryz.ntmps63
 go_wp2_with fail
 go_ret
 exact U HE
theorem fields6 (w:World):Calls Tryz.prog 63 #[I 6] w fun e w'=>FlEnd 6 w e w':=by
 have HE:=H (cz 6 (fldK 6) w 4 rfl)
 go_enter Tryz.func63,Tryz.ntmps63
 go_wp2_with fail
 go_ret
 exact U HE
theorem fields7 (w:World):Calls Tryz.prog 63 #[I 7] w fun e w'=>FlEnd 7 w e w':=by
 have HE:=H (cz 7 (fldK 7) w 4 rfl)
 go_enter Tryz.func63,Tryz.ntmps63
 go_wp2_with fail
 go_ret
 exact U HE
theorem fields8 (w:World):Calls Tryz.prog 63 #[I 8] w fun e w'=>FlEnd 8 w e w':=by
 have HE:=H (cz 8 (fldK 8) w 4 rfl)
 go_enter Tryz.func63,Tryz.ntmps63
 go_wp2_with fail
 go_ret
 exact U HE
theorem fields9 (w:World):Calls Tryz.prog 63 #[I 9] w fun e w'=>FlEnd 9 w e w':=by
 have HE:=H (cz 9 (fldK 9) w 4 rfl)
 go_enter Tryz.func63,Tryz.ntmps63
 go_wp2_with fail
 go_ret
 exact U HE
theorem fieldsN (k:Int) (w:World) (h:¬ (1 ≤ k∧k ≤ 9)):Calls Tryz.prog 63 #[I k] w fun e w'=>FlEnd k w e w':=by
 have HE:=H (cz k [] w 4 (by unfold fldK; rw [if_neg (by omega),if_neg (by omega),if_neg (by omega),if_neg (by omega),if_neg (by omega)]))
 have e1:(k == 1) = false:=xe.2 (by omega)
 have e2:(k == 2) = false:=xe.2 (by omega)
 have e3:(k == 3) = false:=xe.2 (by omega)
 have e4:(k == 4) = false:=xe.2 (by omega)
 have e5:(k == 5) = false:=xe.2 (by omega)
 have e6:(k == 6) = false:=xe.2 (by omega)
 have e7:(k == 7) = false:=xe.2 (by omega)
 have e8:(k == 8) = false:=xe.2 (by omega)
 have e9:(k == 9) = false:=xe.2 (by omega)
 clear h
 go_enter Tryz.func63,Tryz.ntmps63
 go_wp2_with fail
 go_ret
 exact U HE
theorem fields_any (k:Int) (w:World):Calls Tryz.prog 63 #[I k] w fun e w'=>FlEnd k w e w':=by
 by_cases h:1 ≤ k∧k ≤ 9
 ·rcases (show k = 1 ∨ k = 2 ∨ k = 3 ∨ k = 4 ∨ k = 5 ∨ k = 6 ∨ k = 7 ∨ k = 8 ∨ k = 9 by omega) with rfl | rfl | rfl | rfl | rfl | rfl | rfl | rfl | rfl
  ·exact fields1 w
  ·exact fields2 w
  ·exact fields3 w
  ·exact fields4 w
  ·exact fields5 w
  ·exact fields6 w
  ·exact fields7 w
  ·exact fields8 w
  ·exact fields9 w
 ·exact fieldsN k w h
theorem size_mk (w:World) (o:Obj):(w.alloc o).heap.size = w.heap.size + 1:=by simp
theorem numbers_any (e:Ev) (w:World):Calls Tryz.prog 64 #[evV e] w fun r w'=>∃ g,r = .returned (.slice (some (Q g 0)) 5 5)∧w.heap.size ≤ g∧Bx w' g ((numsE e).map (I))∧yp w w':=by
 have HE:Hid (∀ w':World,yp w w'→∃ g,Ending.returned (.slice (some (Q w'.heap.size 0)) 5 5) = .returned (.slice (some (Q g 0)) 5 5)∧w.heap.size ≤ g∧Bx (w'.alloc (L ((numsE e).map (I)).toArray 3)) g ((numsE e).map (I))∧yp w (w'.alloc (L ((numsE e).map (I)).toArray 3))):=fun w' E =>
  ⟨w'.heap.size,rfl,E.size,zq w' _ _,E.alloc E.size _⟩
 have E:=fw w (Obj.cells e.vs.toArray 52)
 have HB:=H E
 obtain ⟨xn,⟨ck,A,ct,F,cq,ci,O,cg⟩,id,xj,qty,xk,xi⟩:=e
 unfold evV
 unfold numsE at HE ⊢
 unfold Ev.vs at HB
 simp only [List.map_cons,List.map_nil] at HE HB ⊢
 clear E
 go_enter Tryz.func64,Tryz.ntmps64
 go_wp2_with fail
 go_ret
 have hf:=U HE _ (U HB)
 rw [size_mk] at hf
 exact hf
theorem fldK_len (k:Int):fldK k = [] ∨ (fldK k).length = 5:=by
 unfold fldK
 repeat' split
 all_goals simp
theorem fldK_no (k:Int) (h:¬ (1 ≤ k∧k ≤ 9)):fldK k = []:=by unfold fldK; rw [if_neg (by omega),if_neg (by omega),if_neg (by omega),if_neg (by omega),if_neg (by omega)]
theorem restK_no {fs:List Bool} {ns:List Int} {i:Nat} (h:i < 5) (N:fs.getD i false = false) (Y:(ns.getD i 0 == 0) = false):restK fs ns = false:=by
 unfold restK
 rw [List.all_eq_false]
 exact ⟨i,List.mem_range.2 h,by rw [N,Y]; decide⟩
theorem restK_yes {fs:List Bool} {ns:List Int} (h:∀ i,i < 5→(fs.getD i false || (ns.getD i 0 == 0)) = true):restK fs ns = true:=by
 unfold restK
 rw [List.all_eq_true]
 exact fun i hi=>h i (List.mem_range.1 hi)
theorem specOK_any (e:Ev) (w:World) (hg:e.cmd.g.size ≤ maxLen):Calls Tryz.prog 36 #[evV e] w fun r w'=>r = .returned (.bool (okE e))∧yp w w':=by
 unfold maxLen at hg
 obtain ⟨xz,uA⟩:=fE w e.vs 52
 have qL:Hid ((w.alloc (Obj.cells e.vs.toArray 52)).heap.size = w.heap.size + 1):=by show _ = _; simp
 have ue:=H xz
 have HNM:=H (fun W=>numbers_any e W)
 have jr:=H (fun W=>plain_any e.cmd W)
 have HQ:=H (show okE e = if fldK e.kind = [] then false else if restK (fldK e.kind) (numsE e) = false then false else
  if e.kind = 1 then (e.cmd.k == 1) && ((e.cmd.i == 0) && decide (e.cmd.g.size ≤ 13)) else if e.kind = 2 then decide (e.cmd.g.size ≤ 13) else plainC e.cmd from rfl)
 generalize okE e = ok at *
 generalize hnl:numsE e = ns at *
 have hns:ns.length = 5:=by rw [← hnl]; rfl
 clear xz hnl
 generalize plainC e.cmd = pc at *
 obtain ⟨xn,⟨ck,A,ct,F,cq,ci,O,cg⟩,id,xj,qty,xk,xi⟩:=e
 unfold evV at HNM ⊢
 unfold cmV at jr
 unfold Ev.vs at uA qL ue
 simp only at HNM jr uA qL ue HQ hg ⊢
 go_enter Tryz.func36,Tryz.ntmps36
 refine fD fun zb xU=>?_
 go_wp2_with fail
 refine U xU _ _ ?_
 clear xU
 generalize (w.alloc (L (yw xn ck A ct F cq ci O cg id xj qty xk xi).toArray 52)) = W1 at uA qL ue ⊢
 have x0:=K (U uA) 0 rfl
 go_wp2_with fail
 refine (fields_any xn W1).mono ?_
 rintro r W2 ⟨g1,rfl,pS,hF,xL⟩
 by_cases hk:fldK xn = []
 ·have pH:Hid (ok = false):=by rw [U HQ,if_pos hk]; exact rfl
  rw [hk]
  have xw:=H (fC (U ue) xL)
  clear hF xL
  go_wp2_with fail
  go_ret
  exact ⟨by rw [U pH]; rfl,U xw⟩
 have hl5:(fldK xn).length = 5:=(fldK_len xn).resolve_left hk
 rw [if_neg hk] at HQ
 have hk19:1 ≤ xn∧xn ≤ 9:=by
  rcases Classical.em (1 ≤ xn∧xn ≤ 9) with h | h
  ·exact h
  ·exact absurd (fldK_no xn h) hk
 rw [hl5]
 have jt:=zf (U uA) xL (by rw [U qL]; omega)
 have uW:w.heap.size < W2.heap.size:=by have:=xL.size; rw [U qL] at this; omega
 obtain ⟨z0,z1,z2,z3,z4,z5,z6,z7,z8,z9,kU,ow,ox,oy⟩:=yz (jt)
 have xI:=H jt
 have vC:=H hF
 have xw:=H (fC (U ue) xL)
 clear jt hF xL x0 uA qL ue
 generalize hfs:fldK xn = fs at *
 clear hfs
 go_wp2_with fail
 refine (U HNM W2).mono ?_
 rintro r W3 ⟨g2,rfl,uZ,hN,xQ⟩
 have hFg:g1 < W2.heap.size:=by
  obtain ⟨y,hy⟩:=Option.isSome_iff_exists.1 ((U vC).t 0 (by simp; omega)).1
  exact yL W2 _ hy
 have HF3:=H (zf (U vC) xQ hFg)
 have ko:=zf (U xI) xQ uW
 have xN:=H (fC (U xw) xQ)
 have oB:=H hN
 have uP:=H ko
 clear hN xQ z0 z1 z2 z3 z4 z5 z6 z7 z8 z9 kU ow ox oy xI vC xw ko
 go_wp2_with fail
 go_loop [5] (fun iv=>∃ i:Nat,i ≤ 5∧iv = I i∧∀ j,j < i→(fs.getD j false || (ns.getD j 0 == 0)) = true) (fun iv=>5 - (intOf iv).toNat)
 case atStart=>exact ⟨0,by omega,rfl,fun j V=>by omega⟩
 case round =>
  obtain ⟨i,hi,rfl,D⟩:=hrel
  have HA:=H D
  clear D
  by_cases xJ:i < 5
  ·have hf:W3.cell? (Q g1 i) = some (.bool (fs.getD i false)):=K (U HF3) i (by rw [List.getElem?_map,yI (by omega)]; simp [List.getD,show i < fs.length by omega])
   have hn:W3.cell? (Q g2 i) = some (I (ns.getD i 0)):=K (U oB) i (by rw [List.getElem?_map,yI (by omega)]; simp [List.getD,show i < ns.length by omega])
   have uF:(i:Int) < 5:=by omega
   have HS:Hid ((fs.getD i false || (ns.getD i 0 == 0)) = true→∀ j,j < i + 1→(fs.getD j false || (ns.getD j 0 == 0)) = true):=fun h j V=>by
    rcases Nat.lt_or_ge j i with N | N
    ·exact U HA j N
    ·obtain rfl:j = i:=by omega
     exact h
   have HNo:=H (fun N Y=>restK_no (fs:=fs) (ns:=ns) (i:=i) xJ N Y)
   generalize fs.getD i false = fb at *
   generalize ns.getD i 0 = nn at *
   cases fb with
   | true =>
    go_wp2_with fail
    go_round
    case rel=>exact ⟨i + 1,by omega,by go_num,U HS rfl⟩
    case measure=>simp [intOf]; omega
   | false =>
    cases hnn:nn == 0 with
    | true =>
     have hn2:(nn != 0) = false:=by rw [bne,hnn]; rfl
     have jB:=H (U HS (by rw [hnn]; rfl))
     clear hnn HNo
     go_wp2_with fail
     go_round
     case rel=>exact ⟨i + 1,by omega,by go_num,U jB⟩
     case measure=>simp [intOf]; omega
    | false =>
     have hn2:(nn != 0) = true:=by rw [bne,hnn]; rfl
     have HOK:Hid (ok = false):=by rw [U HQ,if_pos (U HNo rfl hnn)]; exact rfl
     clear hnn HNo HS
     go_wp2_with fail
     go_ret
     exact ⟨by rw [U HOK]; rfl,U xN⟩
  ·have hrest:=restK_yes (fs:=fs) (ns:=ns) (fun j V=>U HA j (by omega))
   rw [hrest,if_neg (by decide)] at HQ
   obtain ⟨y0,y1,y2,y3,y4,y5,y6,y7,y8,y9,y10,y11,y12,y13⟩:=yz (U uP)
   clear hrest HA HF3 oB
   have hdz:decide (cg.size ≤ 13) = decide ((cg.size:Int) ≤ 13):=by
    rw [decide_eq_decide]; omega
   by_cases hk1:xn = 1
   ·rw [if_pos hk1,hdz] at HQ
    have e1:(xn == 1) = true:=by rw [hk1]; rfl
    clear hk1 hk19
    cases N:ck == 1 with
    | false =>
     rw [N,Bool.false_and] at HQ
     go_wp2_with fail
     go_ret
     exact ⟨by rw [U HQ]; rfl,U xN⟩
    | true =>
     rw [N,Bool.true_and] at HQ
     cases Y:ci == 0 with
     | false =>
      rw [Y,Bool.false_and] at HQ
      go_wp2_with fail
      go_ret
      exact ⟨by rw [U HQ]; rfl,U xN⟩
     | true =>
      rw [Y,Bool.true_and] at HQ
      go_wp2_with fail
      go_ret
      exact ⟨by rw [U HQ]; rfl,U xN⟩
   ·rw [if_neg hk1] at HQ
    have e1:(xn == 1) = false:=by simpa using hk1
    by_cases pU:xn = 2
    ·rw [if_pos pU,hdz] at HQ
     have e2:(xn == 2) = true:=by rw [pU]; rfl
     clear hk1 pU hk19
     go_wp2_with fail
     go_ret
     exact ⟨by rw [U HQ]; rfl,U xN⟩
    ·rw [if_neg pU] at HQ
     have e2:(xn == 2) = false:=by simpa using pU
     clear hk1 pU hk19
     go_wp2_with fail
     refine (U jr W3).mono ?_
     rintro r W4 ⟨rfl,xy⟩
     have xH:=H (fC (U xN) xy)
     clear xy
     go_wp2_with fail
     go_ret
     exact ⟨by rw [U HQ]; rfl,U xH⟩
end Go.Proofs.YtnphbkgfjanmgaaGreatDoor
