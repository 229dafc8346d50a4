/-
  Whether a book is right, as the model says it: proved by walking the function. (what walks the functions of the model or of the laws)
-/
import Derived.Test.YtnphbkgfjanmgaaGreatDoorAj29
set_option linter.unusedVariables false
set_option maxHeartbeats 6400000
set_option maxRecDepth 100000
namespace Go.Proofs.YtnphbkgfjanmgaaGreatDoor
open Go.RowKit
theorem specBookOK_any (next:Int) (v:Value) (l:List Od) (w:World) (hr:RdR Od.vs 6 w v l) (hg:∀ c ∈ l,c.tag.size ≤ maxLen) :
  Calls Tryz.prog 25 #[.agg #[I next,v]] w fun e w'=>e = .returned (.bool (okS next l))∧yp w w':=by
 have HR:=H hr
 have HGG:=H hg
 obtain ⟨a,cap,rfl,xz,hc⟩:=hr
 have xr:∀ (k:Nat) (c:Od),l[k]? = some c→∃ b off,a = some (D b off)∧b < w.heap.size∧w.rangeAt b (off + k * 6) c.vs:=by
  intro k c hk
  obtain ⟨b,off,N,Y,h3⟩:=hc (by intro h; rw [h] at hk; simp at hk)
  exact ⟨b,off,N,Y,h3 k c hk⟩
 have HC:=H xr
 clear xr hc hg
 have xX:Hid (yp w (w.alloc (A #[I next,.slice a l.length cap] 34))):=gp _ _
 have kR:=zo w [I next,.slice a l.length cap] 34
 have HX:Hid (World.rangeAt (w.alloc (A #[I next,.slice a l.length cap] 34)) w.heap.size 0 [I next,.slice a l.length cap]∧w.heap.size < (w.alloc (A #[I next,.slice a l.length cap] 34)).heap.size):=⟨kR,by rw [zj]; omega⟩
 clear kR
 cases N:betB next 1 1000000
 ·go_enter Tryz.func25,Tryz.ntmps25
  go_wp2_with fail
  refine (cD next 1 1000000 _).mono ?_
  rintro e w1 ⟨rfl,rfl⟩
  go_wp2_with fail
  go_ret
  exact ⟨zp (by simp [okS,N]),U xX⟩
 by_cases Y:l.length ≤ 20
 rotate_left
 ·have oU:(20:Int) < l.length:=by omega
  go_enter Tryz.func25,Tryz.ntmps25
  go_wp2_with fail
  refine (cD next 1 1000000 _).mono ?_
  rintro e w1 ⟨rfl,rfl⟩
  go_wp2_with fail
  go_ret
  exact ⟨zp (by simp [okS,N,Y]),U xX⟩
 have oU:¬ ((20:Int) < l.length):=by omega
 go_enter Tryz.func25,Tryz.ntmps25
 go_wp2_with fail
 refine (cD next 1 1000000 _).mono ?_
 rintro e w1 ⟨rfl,rfl⟩
 go_wp2_with fail
 generalize (w.alloc (A #[I next,.slice a l.length cap] 34)) = W1 at xX HX ⊢
 have hsw:=(U HX).2
 go_loopw [3] (fun iv wr=>∃ (i:Nat) (last:Int),i ≤ l.length∧iv = I i∧Hid (allR next 0 l = allR next last (l.drop i))∧0 ≤ last∧(i = 0→last = 0)∧(∀ j,i = j + 1→∃ p,l[j]? = some p∧p.id = last)∧yp W1 wr) (fun iv _=>l.length - (intOf iv).toNat)
 case atStart=>exact ⟨0,0,Nat.zero_le _,rfl,rfl,Int.le_refl _,fun _=>rfl,fun j X=>by omega,Below.refl _ _⟩
 case round =>
  obtain ⟨i,last,hi,rfl,E,jS,hz,hp,xl⟩:=hrel
  have HB:=H xl
  have HP:=H hp
  have hbox:=zc (U HX).1 xl hsw
  have x0:wr.cell? (D w.heap.size 0) = some (I next):=hbox 0 _ rfl
  have x1:wr.cell? (D w.heap.size 1) = some (.slice a l.length cap):=hbox 1 _ rfl
  have HBOX:=H hbox
  clear xl hp hbox
  by_cases xI:i < l.length
  ·obtain ⟨c,uu⟩:∃ c,l[i]? = some c:=⟨_,yI xI⟩
   have jj:l.drop i = c :: l.drop (i + 1):=by
    obtain ⟨N,rfl⟩:=yH.1 uu
    exact xd N
   have HI:Hid (allR next 0 l = (ordB c && decide (last < c.id) && decide (c.id < next) && allR next c.id (l.drop (i + 1)))):=by
    have:=U E
    rw [jj] at this
    exact this
   obtain ⟨b,off,rfl,Q,F⟩:=U HC i c uu
   have hb01:=(U xX).trans ((U HB).mono (U xX).size)
   obtain ⟨g0,g1,g2,g3,g4,g5⟩:=zB (zc F hb01 Q)
   have HS:=H (U HGG c (yP uu))
   have jV:=H uu
   have uF:(i:Int) < l.length:=by omega
   have pA:=(U HB).size
   have ot:=H hb01
   clear uu F jj E hb01
   go_wp2_with fail
   generalize hW4:(wr.alloc (A (yx c.id c.side c.ticks c.left c.life c.tag).toArray 78)) = W4
   have kG:Hid (W4.rangeAt wr.heap.size 0 c.vs∧W4.rangeAt w.heap.size 0 [I next,.slice (some (D b off)) l.length cap]∧yp W1 W4∧W4.heap.size = wr.heap.size + 1∧yp wr W4):=by
    subst hW4
    have hbb:=gp wr (A (yx c.id c.side c.ticks c.left c.life c.tag).toArray 78)
    exact ⟨zo wr c.vs _,zc (U HBOX) hbb (by omega),(U HB).alloc pA _,zj _ _,hbb⟩
   have qW:Hid (∀ w',W4.grownBy w' none→w'.rangeAt wr.heap.size 0 c.vs∧w'.rangeAt w.heap.size 0 [I next,.slice (some (D b off)) l.length cap]):=fun w' h' =>
    ⟨zy (U kG).1 h' (by rw [(U kG).2.2.2.1]; omega) (by simp),zy (U kG).2.1 h' (by rw [(U kG).2.2.2.1]; omega) (by simp)⟩
   have HPREV:Hid (∀ j p,i = j + 1→l[j]? = some p→∀ w',W4.grownBy w' none→w'.rangeAt b (off + j * 6) p.vs):=fun j p X hpj w' h'=>by
    obtain ⟨b',qA,jP,oW,qz⟩:=U HC j p hpj
    simp only [Option.some.injEq,Addr.mk.injEq,and_true] at jP
    obtain ⟨rfl,rfl⟩:=jP
    exact zy (zc (zc qz (U ot) Q) (U kG).2.2.2.2 (yK Q (U ot).size)) h' (by rw [(U kG).2.2.2.1]; have:=(U ot).size; omega) (by simp)
   have HORD:Hid (∀ W,Calls Tryz.prog 48 #[.agg (yx c.id c.side c.ticks c.left c.life c.tag).toArray] W fun e w'=>e = .returned (.bool (ordB c))∧W.grownBy w' none):=fun W=>(l03Order_any c W (U HS)).mono fun e w' h=>⟨h.1,cR h.2 yb⟩
   clear hW4 g0 g1 g2 g3 g4 g5 x0 x1
   haveI:=gw_ne W4
   have k0:∀ u:GW W4,u.val.cell? (D wr.heap.size 0) = some (I c.id):=fun u=>(U qW u.val u.property).1 0 _ rfl
   have k1:∀ u:GW W4,u.val.cell? (D wr.heap.size 1) = some (I c.side):=fun u=>(U qW u.val u.property).1 1 _ rfl
   have k2:∀ u:GW W4,u.val.cell? (D wr.heap.size 2) = some (I c.ticks):=fun u=>(U qW u.val u.property).1 2 _ rfl
   have k3:∀ u:GW W4,u.val.cell? (D wr.heap.size 3) = some (I c.left):=fun u=>(U qW u.val u.property).1 3 _ rfl
   have k4:∀ u:GW W4,u.val.cell? (D wr.heap.size 4) = some (I c.life):=fun u=>(U qW u.val u.property).1 4 _ rfl
   have k5:∀ u:GW W4,u.val.cell? (D wr.heap.size 5) = some (yl c.tag):=fun u=>(U qW u.val u.property).1 5 _ rfl
   have m0:∀ u:GW W4,u.val.cell? (D w.heap.size 0) = some (I next):=fun u=>(U qW u.val u.property).2 0 _ rfl
   have m1:∀ u:GW W4,u.val.cell? (D w.heap.size 1) = some (.slice (some (D b off)) l.length cap):=fun u=>(U qW u.val u.property).2 1 _ rfl
   cases Z:ordB c
   ·have HN:Hid (allR next 0 l = false):=by
     show _ = _
     rw [U HI,Z]; simp
    refine ew (W:=W4) (by kernel_rfl) (by kernel_rfl) (yS _ _) ?_
    repeat (go_big_quiet_step ((rename_i u; refine (U HORD u.val).mono ?_; rintro e w3 ⟨rfl,uG⟩; exact ⟨rfl,⟨w3,u.property.trans uG⟩,rfl⟩)))
    refine wpQuiet_nil ?_
    rintro _ ⟨⟨w5,jl⟩,rfl⟩
    have uk:=H ((U kG).2.2.1.grown jl (by rw [(U kG).2.2.2.1]; omega) (fun g hg=>by cases hg))
    clear jl
    go_wp2_with fail
    go_ret
    exact ⟨zp (by rw [okS,U HN]; simp),(U xX).trans ((U uk).mono (U xX).size)⟩
   by_cases js:c.id < 1
   ·have qh:¬ last < c.id:=by omega
    have hd1:decide (c.id < 1) = true:=by simpa using js
    have HN:Hid (allR next 0 l = false):=by
     show _ = _
     rw [U HI,decide_eq_false qh]; simp
    refine ew (W:=W4) (by kernel_rfl) (by kernel_rfl) (yS _ _) ?_
    repeat (go_big_quiet_step ((rename_i u; refine (U HORD u.val).mono ?_; rintro e w3 ⟨rfl,uG⟩; exact ⟨rfl,⟨w3,u.property.trans uG⟩,rfl⟩)))
    refine wpQuiet_nil ?_
    rintro _ ⟨⟨w5,jl⟩,rfl⟩
    have uk:=H ((U kG).2.2.1.grown jl (by rw [(U kG).2.2.2.1]; omega) (fun g hg=>by cases hg))
    clear jl
    go_wp2_with fail
    go_ret
    exact ⟨zp (by rw [okS,U HN]; simp),(U xX).trans ((U uk).mono (U xX).size)⟩
   have hd1:decide (c.id < 1) = false:=by simpa using js
   by_cases hcn:c.id < next
   rotate_left
   ·have hd2:decide (next ≤ c.id) = true:=by simp; omega
    have HN:Hid (allR next 0 l = false):=by
     show _ = _
     rw [U HI,decide_eq_false hcn]; simp
    refine ew (W:=W4) (by kernel_rfl) (by kernel_rfl) (yS _ _) ?_
    repeat (go_big_quiet_step ((rename_i u; refine (U HORD u.val).mono ?_; rintro e w3 ⟨rfl,uG⟩; exact ⟨rfl,⟨w3,u.property.trans uG⟩,rfl⟩)))
    refine wpQuiet_nil ?_
    rintro _ ⟨⟨w5,jl⟩,rfl⟩
    have uk:=H ((U kG).2.2.1.grown jl (by rw [(U kG).2.2.2.1]; omega) (fun g hg=>by cases hg))
    clear jl
    go_wp2_with fail
    go_ret
    exact ⟨zp (by rw [okS,U HN]; simp),(U xX).trans ((U uk).mono (U xX).size)⟩
   have hd2:decide (next ≤ c.id) = false:=by simpa using hcn
   cases i with
   | zero =>
    have qh:last < c.id:=by have:=hz rfl; omega
    have HN:Hid (allR next 0 l = allR next c.id (l.drop (0 + 1))):=by
     show _ = _
     rw [U HI,Z,decide_eq_true qh,decide_eq_true hcn]; rfl
    refine ew (W:=W4) (by kernel_rfl) (by kernel_rfl) (yS _ _) ?_
    repeat (go_big_quiet_step ((rename_i u; refine (U HORD u.val).mono ?_; rintro e w3 ⟨rfl,uG⟩; exact ⟨rfl,⟨w3,u.property.trans uG⟩,rfl⟩)))
    refine wpQuiet_nil ?_
    rintro _ ⟨⟨w5,jl⟩,rfl⟩
    have uk:=H ((U kG).2.2.1.grown jl (by rw [(U kG).2.2.2.1]; omega) (fun g hg=>by cases hg))
    clear jl
    go_wp2_with fail
    go_roundw
    case rel=>exact ⟨0 + 1,c.id,by omega,by go_num,U HN,by omega,fun h=>by omega,fun j' hj'=>⟨c,by rw [show j' = 0 by omega]; exact U jV,rfl⟩,U uk⟩
    case measure=>simp [intOf]; omega
   | succ j =>
    obtain ⟨p,hpj,uP⟩:=U HP j rfl
    have q0:∀ u:GW W4,u.val.cell? (D b (off + j * 6)) = some (I p.id):=fun u=>(zB (U HPREV j p rfl hpj u.val u.property)).1
    have bc:((j + 1:Nat):Int) = (j:Int) + 1:=by omega
    have hjl:(j:Int) < l.length:=by omega
    have hwj:IntKind.i64.wrap ((j:Int) + 1 - 1) = (j:Int):=by rw [IntKind.wrap_i64]; omega
    have qQ:decide ((0:Int) < (j:Int) + 1) = true:=by rw [xg]; omega
    clear hpj
    by_cases qh:last < c.id
    ·have ax:decide (c.id ≤ p.id) = false:=by rw [uP]; simpa using qh
     have HN:Hid (allR next 0 l = allR next c.id (l.drop ((j + 1) + 1))):=by
      show _ = _
      rw [U HI,Z,decide_eq_true qh,decide_eq_true hcn]; rfl
     refine ew (W:=W4) (by kernel_rfl) (by kernel_rfl) (yS _ _) ?_
     repeat (go_big_quiet_step ((rename_i u; refine (U HORD u.val).mono ?_; rintro e w3 ⟨rfl,uG⟩; exact ⟨rfl,⟨w3,u.property.trans uG⟩,rfl⟩)))
     refine wpQuiet_nil ?_
     rintro _ ⟨⟨w5,jl⟩,rfl⟩
     have uk:=H ((U kG).2.2.1.grown jl (by rw [(U kG).2.2.2.1]; omega) (fun g hg=>by cases hg))
     clear jl
     go_wp2_with fail
     go_roundw
     case rel=>exact ⟨(j + 1) + 1,c.id,by omega,by go_num,U HN,by omega,fun h=>by omega,fun j' hj'=>⟨c,by rw [show j' = (j + 1) by omega]; exact U jV,rfl⟩,U uk⟩
     case measure=>simp [intOf]; omega
    ·have ax:decide (c.id ≤ p.id) = true:=by rw [uP]; simpa using qh
     have HN:Hid (allR next 0 l = false):=by
      show _ = _
      rw [U HI,decide_eq_false qh]; simp
     refine ew (W:=W4) (by kernel_rfl) (by kernel_rfl) (yS _ _) ?_
     repeat (go_big_quiet_step ((rename_i u; refine (U HORD u.val).mono ?_; rintro e w3 ⟨rfl,uG⟩; exact ⟨rfl,⟨w3,u.property.trans uG⟩,rfl⟩)))
     refine wpQuiet_nil ?_
     rintro _ ⟨⟨w5,jl⟩,rfl⟩
     have uk:=H ((U kG).2.2.1.grown jl (by rw [(U kG).2.2.2.1]; omega) (fun g hg=>by cases hg))
     clear jl
     go_wp2_with fail
     go_ret
     exact ⟨zp (by rw [okS,U HN]; simp),(U xX).trans ((U uk).mono (U xX).size)⟩
  ·have hallT:allR next 0 l = true:=by
    have h:=U E
    rw [xb (by omega)] at h
    rw [h]; rfl
   have HALL:=H hallT
   have HRI:=H (ft hallT).1
   have ot:=H ((U xX).trans ((U HB).mono (U xX).size))
   have HRr:=H (zi (U HR) (U ot) yb)
   have pA:w.heap.size < wr.heap.size:=yK hsw (U HB).size
   clear E hallT
   go_wp2_with fail
   refine (l03Levels_any _ l wr (U HRr) (by omega)).mono ?_
   rintro e w3 ⟨rfl,uG⟩
   have vn:=H uG
   have z1:w3.cell? (D w.heap.size 1) = some (.slice a l.length cap):=uG.cell x1 (by simp)
   have aT:=H (rdR_grown (U HRr) uG (fun g hg=>by cases hg))
   clear uG x0 x1
   by_cases h8:nlev l ≤ 8
   rotate_left
   ·have h8':(8:Int) < (nlev l:Nat):=by omega
    go_wp2_with fail
    go_ret
    refine ⟨zp (by simp [okS,h8]),?_⟩
    exact (U ot).trans ((eA (U vn) (fun g hg=>by cases hg) yb).mono (U ot).size)
   have h8':¬ ((8:Int) < (nlev l:Nat)):=by omega
   have HOK:Hid (okS next l = noX l):=by
    show _ = _
    rw [okS,N,decide_eq_true Y,U HALL,decide_eq_true h8]; rfl
   go_wp2_with fail
   refine (fj _ l 1 w3 (U aT) (U HRI) (by omega)).mono ?_
   rintro e w4 ⟨kb,rfl,oY,kZ⟩
   have uw:=H ((U vn).trans kZ)
   have y1:w4.cell? (D w.heap.size 1) = some (.slice a l.length cap):=kZ.cell z1 (by simp)
   have HR4:=H (rdR_grown (U aT) kZ (fun g hg=>by cases hg))
   have HF1:=H oY
   clear kZ oY z1
   go_wp2_with fail
   refine (fj _ l 2 w4 (U HR4) (U HRI) (by omega)).mono ?_
   rintro e w5 ⟨ks,rfl,hf2,jl⟩
   have uC:=H ((U uw).trans jl)
   have v1:w5.cell? (D w.heap.size 1) = some (.slice a l.length cap):=jl.cell y1 (by simp)
   have vG:=H hf2
   have vy:=H ((U ot).trans ((eA (U uC) (fun g hg=>by cases hg) yb).mono (U ot).size))
   clear jl hf2 y1
   rcases frPre_end (U HF1) with ⟨rfl,hno1⟩ | ⟨ib,ob,rfl,hib,oZ⟩
   ·have HN:=H (noX_none1 hno1)
    clear hno1
    go_wp2_with fail
    go_quiet (fail)
    go_wp2_with fail
    go_ret
    exact ⟨zp (by rw [U HOK,U HN]),⟨(U vy).os,(U vy).tape,(U vy).output,(U vy).size,(U vy).block⟩⟩
   have hib0:decide ((ib:Int) < 0) = false:=by simp
   rcases frPre_end (U vG) with ⟨rfl,hno2⟩ | ⟨is,os,rfl,his,hfs⟩
   ·have HN:=H (noX_none2 hno2)
    clear hno2
    go_wp2_with fail
    go_quiet (fail)
    go_wp2_with fail
    go_ret
    exact ⟨zp (by rw [U HOK,U HN]),⟨(U vy).os,(U vy).tape,(U vy).output,(U vy).size,(U vy).block⟩⟩
   have his0:decide ((is:Int) < 0) = false:=by simp
   have HN:=H (noX_fronts oZ hfs)
   obtain ⟨b,off,rfl,Q,hcb⟩:=U HC ib ob oZ.1
   obtain ⟨b',qA,jP,oW,kI⟩:=U HC is os hfs.1
   simp only [Option.some.injEq,Addr.mk.injEq,and_true] at jP
   obtain ⟨rfl,rfl⟩:=jP
   obtain ⟨-,-,t1,-⟩:=zB (zc hcb (U vy) Q)
   obtain ⟨-,-,t2,-⟩:=zB (zc kI (U vy) Q)
   have hib':(ib:Int) < l.length:=by omega
   have his':(is:Int) < l.length:=by omega
   clear oZ hfs hcb kI
   go_wp2_with fail
   go_quiet (fail)
   go_wp2_with fail
   go_ret
   exact ⟨zp (by rw [U HOK,U HN]),⟨(U vy).os,(U vy).tape,(U vy).output,(U vy).size,(U vy).block⟩⟩
theorem plain0 (ck L ct V cq ci:Int) (O:Nat) (cg:ByteArray) (w:World) (h0:(ck == 0) = false):Calls Tryz.prog 65 #[.agg (yy ck L ct V cq ci O cg).toArray] w fun e w'=>e = .returned (.bool false)∧yp w w':=by
 go_enter Tryz.func65,Tryz.ntmps65
 go_wp2_with fail
 go_ret
 exact ⟨rfl,by go_grown⟩
theorem plain1 (ck L ct V cq ci:Int) (O:Nat) (cg:ByteArray) (w:World) (h0:(ck == 0) = true) (N:(L == 0) = false):Calls Tryz.prog 65 #[.agg (yy ck L ct V cq ci O cg).toArray] w fun e w'=>e = .returned (.bool false)∧yp w w':=by
 go_enter Tryz.func65,Tryz.ntmps65
 go_wp2_with fail
 go_ret
 exact ⟨rfl,by go_grown⟩
theorem plain2 (ck L ct V cq ci:Int) (O:Nat) (cg:ByteArray) (w:World) (h0:(ck == 0) = true) (N:(L == 0) = true) (Y:(ct == 0) = false):Calls Tryz.prog 65 #[.agg (yy ck L ct V cq ci O cg).toArray] w fun e w'=>e = .returned (.bool false)∧yp w w':=by
 go_enter Tryz.func65,Tryz.ntmps65
 go_wp2_with fail
 go_ret
 exact ⟨rfl,by go_grown⟩
theorem plain3 (ck L ct V cq ci:Int) (O:Nat) (cg:ByteArray) (w:World) (h0:(ck == 0) = true) (N:(L == 0) = true) (Y:(ct == 0) = true) (h3:(V == 0) = false):Calls Tryz.prog 65 #[.agg (yy ck L ct V cq ci O cg).toArray] w fun e w'=>e = .returned (.bool false)∧yp w w':=by
 go_enter Tryz.func65,Tryz.ntmps65
 go_wp2_with fail
 go_ret
 exact ⟨rfl,by go_grown⟩
theorem plain4 (ck L ct V cq ci:Int) (O:Nat) (cg:ByteArray) (w:World) (h0:(ck == 0) = true) (N:(L == 0) = true) (Y:(ct == 0) = true) (h3:(V == 0) = true) (h4:(cq == 0) = false):Calls Tryz.prog 65 #[.agg (yy ck L ct V cq ci O cg).toArray] w fun e w'=>e = .returned (.bool false)∧yp w w':=by
 go_enter Tryz.func65,Tryz.ntmps65
 go_wp2_with fail
 go_ret
 exact ⟨rfl,by go_grown⟩
theorem plain5 (ck L ct V cq ci:Int) (O:Nat) (cg:ByteArray) (w:World) (h0:(ck == 0) = true) (N:(L == 0) = true) (Y:(ct == 0) = true) (h3:(V == 0) = true) (h4:(cq == 0) = true) (h5:(ci == 0) = false):Calls Tryz.prog 65 #[.agg (yy ck L ct V cq ci O cg).toArray] w fun e w'=>e = .returned (.bool false)∧yp w w':=by
 go_enter Tryz.func65,Tryz.ntmps65
 go_wp2_with fail
 go_ret
 exact ⟨rfl,by go_grown⟩
theorem plain6 (ck L ct V cq ci:Int) (O:Nat) (cg:ByteArray) (w:World) (h0:(ck == 0) = true) (N:(L == 0) = true) (Y:(ct == 0) = true) (h3:(V == 0) = true) (h4:(cq == 0) = true) (h5:(ci == 0) = true) (h6:(((fbit O:Nat):Int) == 0) = false):Calls Tryz.prog 65 #[.agg (yy ck L ct V cq ci O cg).toArray] w fun e w'=>e = .returned (.bool false)∧yp w w':=by
 go_enter Tryz.func65,Tryz.ntmps65
 go_wp2_with (go_at_call 103; refine (bitsS_any O _).mono ?_; rintro e w' ⟨rfl,rfl⟩)
 go_ret
 exact ⟨rfl,by go_grown⟩
theorem plain7 (ck L ct V cq ci:Int) (O:Nat) (cg:ByteArray) (w:World) (h0:(ck == 0) = true) (N:(L == 0) = true) (Y:(ct == 0) = true) (h3:(V == 0) = true) (h4:(cq == 0) = true) (h5:(ci == 0) = true) (h6:(((fbit O:Nat):Int) == 0) = true) (h7:(cg.toList == []) = false):Calls Tryz.prog 65 #[.agg (yy ck L ct V cq ci O cg).toArray] w fun e w'=>e = .returned (.bool false)∧yp w w':=by
 go_enter Tryz.func65,Tryz.ntmps65
 go_wp2_with (go_at_call 103; refine (bitsS_any O _).mono ?_; rintro e w' ⟨rfl,rfl⟩)
 go_ret
 exact ⟨rfl,by go_grown⟩
theorem plain8 (ck L ct V cq ci:Int) (O:Nat) (cg:ByteArray) (w:World) (h0:(ck == 0) = true) (N:(L == 0) = true) (Y:(ct == 0) = true) (h3:(V == 0) = true) (h4:(cq == 0) = true) (h5:(ci == 0) = true) (h6:(((fbit O:Nat):Int) == 0) = true) (h7:(cg.toList == []) = true):Calls Tryz.prog 65 #[.agg (yy ck L ct V cq ci O cg).toArray] w fun e w'=>e = .returned (.bool true)∧yp w w':=by
 go_enter Tryz.func65,Tryz.ntmps65
 go_wp2_with (go_at_call 103; refine (bitsS_any O _).mono ?_; rintro e w' ⟨rfl,rfl⟩)
 go_ret
 exact ⟨rfl,by go_grown⟩
theorem plain_any (c:Cm) (w:World):Calls Tryz.prog 65 #[cmV c] w fun e w'=>e = .returned (.bool (plainC c))∧yp w w':=by
 obtain ⟨ck,L,ct,V,cq,ci,O,cg⟩:=c
 unfold cmV plainC
 simp only
 cases h0:(ck == 0) with
 | false=>exact plain0 ck L ct V cq ci O cg w h0
 | true =>
  cases N:(L == 0) with
  | false=>exact plain1 ck L ct V cq ci O cg w h0 N
  | true =>
   cases Y:(ct == 0) with
   | false=>exact plain2 ck L ct V cq ci O cg w h0 N Y
   | true =>
    cases h3:(V == 0) with
    | false=>exact plain3 ck L ct V cq ci O cg w h0 N Y h3
    | true =>
     cases h4:(cq == 0) with
     | false=>exact plain4 ck L ct V cq ci O cg w h0 N Y h3 h4
     | true =>
      cases h5:(ci == 0) with
      | false=>exact plain5 ck L ct V cq ci O cg w h0 N Y h3 h4 h5
      | true =>
       have efb:(fbit O == 0) = (((fbit O:Nat):Int) == 0):=by rw [Bool.eq_iff_iff]; simp
       rw [efb]
       cases h6:(((fbit O:Nat):Int) == 0) with
       | false=>exact plain6 ck L ct V cq ci O cg w h0 N Y h3 h4 h5 h6
       | true =>
        have eg:decide (cg.toList = []) = (cg.toList == []):=by rw [Bool.eq_iff_iff]; simp
        rw [eg]
        cases h7:(cg.toList == []) with
        | false=>exact plain7 ck L ct V cq ci O cg w h0 N Y h3 h4 h5 h6 h7
        | true =>
         exact plain8 ck L ct V cq ci O cg w h0 N Y h3 h4 h5 h6 h7
def FlEnd (k:Int) (w:World) (e:Ending) (w':World):Prop:=∃ g,e = .returned (.slice (some (D g 0)) (fldK k).length (fldK k).length)∧w.heap.size ≤ g∧Bx w' g ((fldK k).map Value.bool)∧yp w w'
theorem dj (k:Int) (l:List Bool) (w:World) (t:TypeId) (h:fldK k = l):FlEnd k w (.returned (.slice (some (D w.heap.size 0)) l.length l.length)) (w.alloc (A (l.map Value.bool).toArray t)):=by
 subst h
 exact ⟨w.heap.size,rfl,Nat.le_refl _,zq w _ t,gp _ _⟩
theorem fields1 (w:World):Calls Tryz.prog 63 #[I 1] w fun e w'=>FlEnd 1 w e w':=by
 have HE:=H (dj 1 (fldK 1) w 4 rfl)
 go_enter Tryz.func63,Tryz.ntmps63
 go_wp2_with fail
 go_ret
 exact U HE
theorem fields2 (w:World):Calls Tryz.prog 63 #[I 2] w fun e w'=>FlEnd 2 w e w':=by
 have HE:=H (dj 2 (fldK 2) w 4 rfl)
 go_enter Tryz.func63,Tryz.ntmps63
 go_wp2_with fail
 go_ret
 exact U HE
theorem fields3 (w:World):Calls Tryz.prog 63 #[I 3] w fun e w'=>FlEnd 3 w e w':=by
 have HE:=H (dj 3 (fldK 3) w 4 rfl)
 go_enter Tryz.func63,Tryz.ntmps63
 go_wp2_with fail
 go_ret
 exact U HE
theorem fields4 (w:World):Calls Tryz.prog 63 #[I 4] w fun e w'=>FlEnd 4 w e w':=by
 have HE:=H (dj 4 (fldK 4) w 4 rfl)
 go_enter Tryz.func63,Tryz.ntmps63
 go_wp2_with fail
 go_ret
 exact U HE
theorem fields5 (w:World):Calls Tryz.prog 63 #[I 5] w fun e w'=>FlEnd 5 w e w':=by
 have HE:=H (dj 5 (fldK 5) w 4 rfl)
 go_enter Tryz.func63,Tryz.ntmps63
 go_wp2_with fail
 go_ret
 exact U HE
theorem fields6 (w:World):Calls Tryz.prog 63 #[I 6] w fun e w'=>FlEnd 6 w e w':=by
 have HE:=H (dj 6 (fldK 6) w 4 rfl)
 go_enter Tryz.func63,Tryz.ntmps63
 go_wp2_with fail
 go_ret
 exact U HE
theorem fields7 (w:World):Calls Tryz.prog 63 #[I 7] w fun e w'=>FlEnd 7 w e w':=by
 have HE:=H (dj 7 (fldK 7) w 4 rfl)
 go_enter Tryz.func63,Tryz.ntmps63
 go_wp2_with fail
 go_ret
 exact U HE
theorem fields8 (w:World):Calls Tryz.prog 63 #[I 8] w fun e w'=>FlEnd 8 w e w':=by
 have HE:=H (dj 8 (fldK 8) w 4 rfl)
 go_enter Tryz.func63,Tryz.ntmps63
 go_wp2_with fail
 go_ret
 exact U HE
theorem fields9 (w:World):Calls Tryz.prog 63 #[I 9] w fun e w'=>FlEnd 9 w e w':=by
 have HE:=H (dj 9 (fldK 9) w 4 rfl)
 go_enter Tryz.func63,Tryz.ntmps63
 go_wp2_with fail
 go_ret
 exact U HE
theorem fieldsN (k:Int) (w:World) (h:¬ (1 ≤ k∧k ≤ 9)):Calls Tryz.prog 63 #[I k] w fun e w'=>FlEnd k w e w':=by
 have HE:=H (dj k [] w 4 (by unfold fldK; rw [if_neg (by omega),if_neg (by omega),if_neg (by omega),if_neg (by omega),if_neg (by omega)]))
 have e1:(k == 1) = false:=xe.2 (by omega)
 have e2:(k == 2) = false:=xe.2 (by omega)
 have e3:(k == 3) = false:=xe.2 (by omega)
 have e4:(k == 4) = false:=xe.2 (by omega)
 have e5:(k == 5) = false:=xe.2 (by omega)
 have e6:(k == 6) = false:=xe.2 (by omega)
 have e7:(k == 7) = false:=xe.2 (by omega)
 have e8:(k == 8) = false:=xe.2 (by omega)
 have e9:(k == 9) = false:=xe.2 (by omega)
 clear h
 go_enter Tryz.func63,Tryz.ntmps63
 go_wp2_with fail
 go_ret
 exact U HE
theorem fields_any (k:Int) (w:World):Calls Tryz.prog 63 #[I k] w fun e w'=>FlEnd k w e w':=by
 by_cases h:1 ≤ k∧k ≤ 9
 ·rcases (show k = 1 ∨ k = 2 ∨ k = 3 ∨ k = 4 ∨ k = 5 ∨ k = 6 ∨ k = 7 ∨ k = 8 ∨ k = 9 by omega) with rfl | rfl | rfl | rfl | rfl | rfl | rfl | rfl | rfl
  ·exact fields1 w
  ·exact fields2 w
  ·exact fields3 w
  ·exact fields4 w
  ·exact fields5 w
  ·exact fields6 w
  ·exact fields7 w
  ·exact fields8 w
  ·exact fields9 w
 ·exact fieldsN k w h
theorem size_mk (w:World) (o:Obj):(w.alloc o).heap.size = w.heap.size + 1:=by simp
theorem numbers_any (e:Ev) (w:World):Calls Tryz.prog 64 #[evV e] w fun r w'=>∃ g,r = .returned (.slice (some (D g 0)) 5 5)∧w.heap.size ≤ g∧Bx w' g ((numsE e).map (I))∧yp w w':=by
 have HE:Hid (∀ w':World,yp w w'→∃ g,Ending.returned (.slice (some (D w'.heap.size 0)) 5 5) = .returned (.slice (some (D g 0)) 5 5)∧w.heap.size ≤ g∧Bx (w'.alloc (A ((numsE e).map (I)).toArray 3)) g ((numsE e).map (I))∧yp w (w'.alloc (A ((numsE e).map (I)).toArray 3))):=fun w' Q =>
  ⟨w'.heap.size,rfl,Q.size,zq w' _ _,Q.alloc Q.size _⟩
 have Q:=gp w (Obj.cells e.vs.toArray 52)
 have HB:=H Q
 obtain ⟨xn,⟨ck,L,ct,V,cq,ci,O,cg⟩,id,xj,qty,xk,xi⟩:=e
 unfold evV
 unfold numsE at HE ⊢
 unfold Ev.vs at HB
 simp only [List.map_cons,List.map_nil] at HE HB ⊢
 clear Q
 go_enter Tryz.func64,Tryz.ntmps64
 go_wp2_with fail
 go_ret
 have hf:=U HE _ (U HB)
 rw [size_mk] at hf
 exact hf
theorem fldK_len (k:Int):fldK k = [] ∨ (fldK k).length = 5:=by
 unfold fldK
 repeat' split
 all_goals simp
theorem fldK_no (k:Int) (h:¬ (1 ≤ k∧k ≤ 9)):fldK k = []:=by unfold fldK; rw [if_neg (by omega),if_neg (by omega),if_neg (by omega),if_neg (by omega),if_neg (by omega)]
theorem restK_no {fs:List Bool} {ns:List Int} {i:Nat} (h:i < 5) (N:fs.getD i false = false) (Y:(ns.getD i 0 == 0) = false):restK fs ns = false:=by
 unfold restK
 rw [List.all_eq_false]
 exact ⟨i,List.mem_range.2 h,by rw [N,Y]; decide⟩
theorem restK_yes {fs:List Bool} {ns:List Int} (h:∀ i,i < 5→(fs.getD i false || (ns.getD i 0 == 0)) = true):restK fs ns = true:=by
 unfold restK
 rw [List.all_eq_true]
 exact fun i hi=>h i (List.mem_range.1 hi)
theorem specOK_any (e:Ev) (w:World) (hg:e.cmd.g.size ≤ maxLen):Calls Tryz.prog 36 #[evV e] w fun r w'=>r = .returned (.bool (okE e))∧yp w w':=by
 unfold maxLen at hg
 obtain ⟨xC,uD⟩:=gw w e.vs 52
 have qU:Hid ((w.alloc (Obj.cells e.vs.toArray 52)).heap.size = w.heap.size + 1):=by show _ = _; simp
 have uf:=H xC
 have HNM:=H (fun W=>numbers_any e W)
 have jC:=H (fun W=>plain_any e.cmd W)
 have HQ:=H (show okE e = if fldK e.kind = [] then false else if restK (fldK e.kind) (numsE e) = false then false else
  if e.kind = 1 then (e.cmd.k == 1) && ((e.cmd.i == 0) && decide (e.cmd.g.size ≤ 13)) else if e.kind = 2 then decide (e.cmd.g.size ≤ 13) else plainC e.cmd from rfl)
 generalize okE e = ok at *
 generalize hnl:numsE e = ns at *
 have hns:ns.length = 5:=by rw [← hnl]; rfl
 clear xC hnl
 generalize plainC e.cmd = pc at *
 obtain ⟨xn,⟨ck,L,ct,V,cq,ci,O,cg⟩,id,xj,qty,xk,xi⟩:=e
 unfold evV at HNM ⊢
 unfold cmV at jC
 unfold Ev.vs at uD qU uf
 simp only at HNM jC uD qU uf HQ hg ⊢
 go_enter Tryz.func36,Tryz.ntmps36
 refine gv fun hR xU=>?_
 go_wp2_with fail
 refine U xU _ _ ?_
 clear xU
 generalize (w.alloc (A (yw xn ck L ct V cq ci O cg id xj qty xk xi).toArray 52)) = W1 at uD qU uf ⊢
 have x0:=R (U uD) 0 rfl
 go_wp2_with fail
 refine (fields_any xn W1).mono ?_
 rintro r W2 ⟨g1,rfl,ay,hF,xK⟩
 by_cases hk:fldK xn = []
 ·have pY:Hid (ok = false):=by rw [U HQ,if_pos hk]; exact rfl
  rw [hk]
  have xw:=H (gu (U uf) xK)
  clear hF xK
  go_wp2_with fail
  go_ret
  exact ⟨by rw [U pY]; rfl,U xw⟩
 have hl5:(fldK xn).length = 5:=(fldK_len xn).resolve_left hk
 rw [if_neg hk] at HQ
 have hk19:1 ≤ xn∧xn ≤ 9:=by
  rcases Classical.em (1 ≤ xn∧xn ≤ 9) with h | h
  ·exact h
  ·exact absurd (fldK_no xn h) hk
 rw [hl5]
 have jF:=zf (U uD) xK (by rw [U qU]; omega)
 have uZ:w.heap.size < W2.heap.size:=by have:=xK.size; rw [U qU] at this; omega
 obtain ⟨z0,z1,z2,z3,z4,z5,z6,z7,z8,z9,oq,oM,oN,oO⟩:=yz (jF)
 have xJ:=H jF
 have vG:=H hF
 have xw:=H (gu (U uf) xK)
 clear jF hF xK x0 uD qU uf
 generalize hfs:fldK xn = fs at *
 clear hfs
 go_wp2_with fail
 refine (U HNM W2).mono ?_
 rintro r W3 ⟨g2,rfl,vh,hN,xQ⟩
 have hFg:g1 < W2.heap.size:=by
  obtain ⟨y,hy⟩:=Option.isSome_iff_exists.1 ((U vG).t 0 (by simp; omega)).1
  exact yL W2 _ hy
 have HF3:=H (zf (U vG) xQ hFg)
 have kH:=zf (U xJ) xQ uZ
 have xN:=H (gu (U xw) xQ)
 have oR:=H hN
 have uS:=H kH
 clear hN xQ z0 z1 z2 z3 z4 z5 z6 z7 z8 z9 oq oM oN oO xJ vG xw kH
 go_wp2_with fail
 go_loop [5] (fun iv=>∃ i:Nat,i ≤ 5∧iv = I i∧∀ j,j < i→(fs.getD j false || (ns.getD j 0 == 0)) = true) (fun iv=>5 - (intOf iv).toNat)
 case atStart=>exact ⟨0,by omega,rfl,fun j X=>by omega⟩
 case round =>
  obtain ⟨i,hi,rfl,E⟩:=hrel
  have HA:=H E
  clear E
  by_cases xI:i < 5
  ·have hf:W3.cell? (D g1 i) = some (.bool (fs.getD i false)):=R (U HF3) i (by rw [List.getElem?_map,yI (by omega)]; simp [List.getD,show i < fs.length by omega])
   have hn:W3.cell? (D g2 i) = some (I (ns.getD i 0)):=R (U oR) i (by rw [List.getElem?_map,yI (by omega)]; simp [List.getD,show i < ns.length by omega])
   have uF:(i:Int) < 5:=by omega
   have HS:Hid ((fs.getD i false || (ns.getD i 0 == 0)) = true→∀ j,j < i + 1→(fs.getD j false || (ns.getD j 0 == 0)) = true):=fun h j X=>by
    rcases Nat.lt_or_ge j i with N | N
    ·exact U HA j N
    ·obtain rfl:j = i:=by omega
     exact h
   have HNo:=H (fun N Y=>restK_no (fs:=fs) (ns:=ns) (i:=i) xI N Y)
   generalize fs.getD i false = fb at *
   generalize ns.getD i 0 = nn at *
   cases fb with
   | true =>
    go_wp2_with fail
    go_round
    case rel=>exact ⟨i + 1,by omega,by go_num,U HS rfl⟩
    case measure=>simp [intOf]; omega
   | false =>
    cases hnn:nn == 0 with
    | true =>
     have hn2:(nn != 0) = false:=by rw [bne,hnn]; rfl
     have jL:=H (U HS (by rw [hnn]; rfl))
     clear hnn HNo
     go_wp2_with fail
     go_round
     case rel=>exact ⟨i + 1,by omega,by go_num,U jL⟩
     case measure=>simp [intOf]; omega
    | false =>
     have hn2:(nn != 0) = true:=by rw [bne,hnn]; rfl
     have HOK:Hid (ok = false):=by rw [U HQ,if_pos (U HNo rfl hnn)]; exact rfl
     clear hnn HNo HS
     go_wp2_with fail
     go_ret
     exact ⟨by rw [U HOK]; rfl,U xN⟩
  ·have hrest:=restK_yes (fs:=fs) (ns:=ns) (fun j X=>U HA j (by omega))
   rw [hrest,if_neg (by decide)] at HQ
   obtain ⟨y0,y1,y2,y3,y4,y5,y6,y7,y8,y9,y10,y11,y12,y13⟩:=yz (U uS)
   clear hrest HA HF3 oR
   have hdz:decide (cg.size ≤ 13) = decide ((cg.size:Int) ≤ 13):=by
    rw [decide_eq_decide]; omega
   by_cases ps:xn = 1
   ·rw [if_pos ps,hdz] at HQ
    have e1:(xn == 1) = true:=by rw [ps]; rfl
    clear ps hk19
    cases N:ck == 1 with
    | false =>
     rw [N,Bool.false_and] at HQ
     go_wp2_with fail
     go_ret
     exact ⟨by rw [U HQ]; rfl,U xN⟩
    | true =>
     rw [N,Bool.true_and] at HQ
     cases Y:ci == 0 with
     | false =>
      rw [Y,Bool.false_and] at HQ
      go_wp2_with fail
      go_ret
      exact ⟨by rw [U HQ]; rfl,U xN⟩
     | true =>
      rw [Y,Bool.true_and] at HQ
      go_wp2_with fail
      go_ret
      exact ⟨by rw [U HQ]; rfl,U xN⟩
   ·rw [if_neg ps] at HQ
    have e1:(xn == 1) = false:=by simpa using ps
    by_cases aA:xn = 2
    ·rw [if_pos aA,hdz] at HQ
     have e2:(xn == 2) = true:=by rw [aA]; rfl
     clear ps aA hk19
     go_wp2_with fail
     go_ret
     exact ⟨by rw [U HQ]; rfl,U xN⟩
    ·rw [if_neg aA] at HQ
     have e2:(xn == 2) = false:=by simpa using aA
     clear ps aA hk19
     go_wp2_with fail
     refine (U jC W3).mono ?_
     rintro r W4 ⟨rfl,xy⟩
     have xH:=H (gu (U xN) xy)
     clear xy
     go_wp2_with fail
     go_ret
     exact ⟨by rw [U HQ]; rfl,U xH⟩
end Go.Proofs.YtnphbkgfjanmgaaGreatDoor
