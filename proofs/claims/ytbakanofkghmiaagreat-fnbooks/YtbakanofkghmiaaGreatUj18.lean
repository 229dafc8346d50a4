/-
  What comes of a new order, by the program: proved by walking the function.
-/
import Derived.Test.YtbakanofkghmiaaGreatUj17
import Derived.WalkMore
set_option linter.unusedVariables false
set_option maxHeartbeats 6400000
set_option maxRecDepth 100000
namespace Go.Proofs.YtbakanofkghmiaaGreat
open Go.RowKit
theorem match_any (next:Int) (vb:Value) (l:List Od) (c:Cm) (w:World) (hr:RdR Od.vs 6 w vb l) (hs:SlOk vb) (hg:GoodL l) (h0:0 ≤ next) (G:next ≤ 1000000) (jq:0 ≤ c.q) (qU:c.q ≤ 1000000) :
  Calls Tryz.prog 112 #[.agg #[H next,vb],noV c] w fun e w'=>∃ vq vt,e = yl (.agg #[H (next + 1),vq,H next,H c.s,H (tk c.p),H (matL c next 21 l c.q []).2.1,H c.l,yj c.g,vt])∧ORow w' w.heap.size vq (matL c next 21 l c.q []).1∧ERow w' w.heap.size vt (matL c next 21 l c.q []).2.2∧ym w w':=by
 have HR:=Y hr
 have HG:=Y hg
 have hsl:=hs
 have HMI:=Y (mi_start (c:=c) (id:=next) hg jq qU)
 have hn:=hg.len
 obtain ⟨a,A,rfl,xC,hc⟩:=hr
 generalize hF:matL c next 21 l c.q [] = qt at HMI ⊢
 clear hF hc hg hs
 obtain ⟨kk,s,ty,li,F,ii,pr,L⟩:=c
 unfold noV
 simp only at *
 have xz:=zf w (N #[H next,.slice a l.length A] 28)
 have xZ:((w.alloc (N #[H next,.slice a l.length A] 28)).alloc (N #[H s,H ty,H li,H F,yi pr,yj L] 112)).heap.size = w.heap.size + 1 + 1:=by rw [zf,xz]
 have jr:(((w.alloc (N #[H next,.slice a l.length A] 28)).alloc (N #[H s,H ty,H li,H F,yi pr,yj L] 112)).alloc (N #[H 0,.slice none 0 0,H 0,H 0,H 0,H 0,H 0,yj ⟨#[]⟩,.slice none 0 0] 157)).heap.size = w.heap.size + 1 + 1 + 1:=by rw [zf,xZ]
 have r1:=zg w [H next,.slice a l.length A] 28
 have r2:=zg (w.alloc (N #[H next,.slice a l.length A] 28)) [H s,H ty,H li,H F,yi pr,yj L] 112
 rw [xz] at r2
 have t3:=zt ((w.alloc (N #[H next,.slice a l.length A] 28)).alloc (N #[H s,H ty,H li,H F,yi pr,yj L] 112)) [H 0,.slice none 0 0,H 0,H 0,H 0,H 0,H 0,yj ⟨#[]⟩,.slice none 0 0] 157
 rw [xZ] at t3
 have xP:Hid (ym w (((w.alloc (N #[H next,.slice a l.length A] 28)).alloc (N #[H s,H ty,H li,H F,yi pr,yj L] 112)).alloc (N #[H 0,.slice none 0 0,H 0,H 0,H 0,H 0,H 0,yj ⟨#[]⟩,.slice none 0 0] 157))):=((eB _ _).alloc (by rw [xz]; omega) _).alloc (by rw [xZ]; omega) _
 have b23:Below (w.heap.size + 1 + 1) ((w.alloc (N #[H next,.slice a l.length A] 28)).alloc (N #[H s,H ty,H li,H F,yi pr,yj L] 112)) (((w.alloc (N #[H next,.slice a l.length A] 28)).alloc (N #[H s,H ty,H li,H F,yi pr,yj L] 112)).alloc (N #[H 0,.slice none 0 0,H 0,H 0,H 0,H 0,H 0,yj ⟨#[]⟩,.slice none 0 0] 157)):=(Below.refl _ _).alloc (by rw [xZ]; omega) _
 have qp:Below (w.heap.size + 1) (w.alloc (N #[H next,.slice a l.length A] 28)) ((w.alloc (N #[H next,.slice a l.length A] 28)).alloc (N #[H s,H ty,H li,H F,yi pr,yj L] 112)):=(Below.refl _ _).alloc (by rw [xz]; omega) _
 have HX:Hid (_∧_∧_):=⟨zb (zb r1 qp (by omega)) b23 (by omega),zb r2 b23 (by omega),t3⟩
 have kz:=Y jr
 clear xz xZ jr r1 r2 t3 b23 qp
 go_enter Tryz.func112,Tryz.ntmps112
 go_wp2_with fail
 go_step3
 go_wp2_with fail
 generalize (((w.alloc (N #[H next,.slice a l.length A] 28)).alloc (N #[H s,H ty,H li,H F,yi pr,yj L] 112)).alloc (N #[H 0,.slice none 0 0,H 0,H 0,H 0,H 0,H 0,yj ⟨#[]⟩,.slice none 0 0] 157)) = W3 at xP HX kz ⊢
 have HX:Hid (W3.rangeAt w.heap.size 0 [H next,.slice a l.length A]∧W3.rangeAt (w.heap.size + 1) 0 [H s,H ty,H li,H F,yi pr,yj L]∧W3.there (w.heap.size + 1 + 1) 0 9):=U HX
 have hw3:W3.heap.size = w.heap.size + 1 + 1 + 1:=U kz
 have HR3:=Y (zh (U HR) (U xP) hb)
 refine zi (RG W3 (fun f=>{ tmps:=#[.agg #[H next,.slice a l.length A],.agg #[H s,H ty,H li,H F,yi pr,yj L],yn w 0,I (w.heap.size + 1) 0,I (w.heap.size + 1 + 1) 0,f 7,M,M,f 0,f 1,f 2,f 3,f 4,f 5,f 6,M,M,M,M,M,M,M,M,M,M,M,M,M,M,M,M,M,M,M,M,M,M,M,M,M,M,M,M,M,M,M],defers:=[] }) 8 (DM w.heap.size W3.heap.size W3 next a A l ⟨kk,s,ty,li,F,ii,pr,L⟩)) (by kernel_rfl) ?_ ?_ ?_
 ·exact ⟨fun _=>M,rfl,⟨rfl,rfl,rfl,Nat.le_refl _,fun _ _=>rfl⟩,fun j K=>by rw [yG] at K; split at K <;> simp at K⟩
 ·rintro x xj V ⟨f,rfl,xh,hD⟩ hx xL
  have xn:=zW xL hx (acyc _ (by kernel_rfl))
  have k8:x[8]? = some true:=xn 8 (by simp)
  obtain ⟨mb,g7,hmb,-,vj⟩:=hD 7 (xn 7 (by simp))
  obtain ⟨a4,c4,hM⟩:=vj k8
  have HM:=Y hM
  have xr:=Y xh
  have y0:V.cell? (J mb 0) = some (H next):=hM.cells 0 _ rfl
  have f0:V.frozen? (J mb 0) = false:=by have:=(hM.there 0 (by omega)).2; rwa [Nat.zero_add] at this
  have hwr:IntKind.i64.wrap (next + 1) = next + 1:=by rw [IntKind.wrap_i64]; omega
  dsimp only
  simp only [g7]
  generalize f 0 = e0,f 1 = e1,f 2 = e2,f 3 = e3,f 4 = e4,f 5 = e5,f 6 = e6
  clear hD xn xL hx k8 vj hM xh g7 x f
  go_wp2_with fail
  go_step3
  go_wp2_with fail
  have HMB:=Y hmb
  clear hw3 hmb y0 f0
  go_loopw [] (fun wr=>∃ vq ll lf vt ts,Hid (MatS mb W3.heap.size wr (next + 1) vq ll ⟨next,s,tk pr,lf,li,L⟩ vt ts)∧Hid (MI ⟨kk,s,ty,li,F,ii,pr,L⟩ next qt ll lf ts)∧Hid (KeptBut mb W3.heap.size W3 wr)) (fun wr=>meas mb wr)
  case atStart=>exact ⟨_,l,F,_,[],matS_next (U HM) (next + 1),U HMI,zk (zB (U xr) hb) (cH V 0 _)⟩
  case round =>
   obtain ⟨vq,ll,lf,vt,ts,hM,hI,hK⟩:=hrel
   have y5:wr.cell? (J mb 5) = some (H lf):=(U hM).cells 5 _ rfl
   obtain ⟨av,cv,rfl⟩:∃ a c,vt = .slice a ts.length c:=by
    rcases (U hM).erow.2 with ⟨e,e2⟩ | ⟨g,A,xp,e,_⟩
    ·exact ⟨none,0,by rw [e,e2]⟩
    ·exact ⟨_,_,e⟩
   obtain ⟨aq,cq,rfl⟩:∃ a c,vq = .slice a ll.length c:=by
    rcases (U hM).orow.2 with ⟨e,e2⟩ | ⟨g,A,xp,e,_⟩
    ·exact ⟨none,0,by rw [e,e2]⟩
    ·exact ⟨_,_,e⟩
   by_cases oV:0 < lf
   ·have kI:=Y (U hI).good
    have HLB:Hid (∀ o' ∈ ll,0 ≤ o'.left∧o'.left ≤ 1000000):=fun o' vv=>by have:=(U kI).left o' vv; omega
    have HRW:=Y (zR (U hM).orow (by have:=(U kI).len; omega))
    generalize uC:othS s = sd
    have HSD:=Y uC
    generalize hq:quOf (decide (sd = 1)) (zo ll sd) = q
    have oC:=frOf_eq q
    generalize hx:hdO q = x at oC
    generalize hfb:hdF q = fb at oC
    have HFR:Hid (frOf (quOf (decide (sd = 1)) (zo ll sd)) = .tuple #[.agg (yu x.id x.side x.ticks x.left x.life x.tag).toArray,.bool fb]):=by show _ = _; rw [hq]; exact oC
    have HFO:Hid (aI ll (othS s) = if fb = true then some x else none):=by
     show _ = _
     rw [aI,uC,hq,← hx,← hfb,hdO,hdF]
     cases q.head? <;> rfl
    clear uC hq oC hx hfb q
    have jr:=U kz
    have hc3:∀ j,wr.cell? (J (w.heap.size + 1) j) = W3.cell? (J (w.heap.size + 1) j):=fun j=>yO (a:=(J (w.heap.size + 1) j)) ((U hK).block (w.heap.size + 1) (by omega) (by have:=U HMB; omega))
    have ph:Hid (wr.rangeAt (w.heap.size + 1) 0 [H s,H ty,H li,H F,yi pr,yj L]):=fun j u K=>(hc3 _).trans ((U HX).2.1 j u K)
    have hl3:w.heap.size + 1 < wr.heap.size:=by have:=(U hK).size; omega
    clear hc3 jr
    go_wp2_with fail
    refine zi (RG wr (fun f=>{ tmps:=#[.agg #[H next,.slice a l.length A],.agg #[H s,H ty,H li,H F,yi pr,yj L],yn w 0,I (w.heap.size + 1) 0,I (w.heap.size + 1 + 1) 0,I mb 0,f 11,f 13,e0,e1,e2,e3,e4,e5,e6,I mb 0,I mb 0,H next,H (next + 1),I mb 0,I mb 0,I mb 2,I mb 5,H lf,.bool true,f 8,f 0,f 1,f 2,f 3,f 4,f 5,f 6,f 7,f 9,f 10,u36,u37,u38,u39,u40,u41,u42,u43,u44,M],defers:=[] }) 12 (DQ mb (w.heap.size + 1) wr (.agg #[H (next + 1),.slice aq ll.length cq]) s sd ll x fb)) (by kernel_rfl) ?_ ?_ ?_
    ·exact ⟨fun j=>if j = 0 then u26 else if j = 1 then u27 else if j = 2 then u28 else if j = 3 then u29 else if j = 4 then u30 else if j = 5 then u31 else if j = 6 then u32 else if j = 7 then u33 else if j = 8 then u25 else if j = 9 then u34 else if j = 10 then u35 else if j = 11 then u6 else if j = 13 then u7 else M,rfl,⟨rfl,rfl,rfl,Nat.le_refl _,fun _ _=>rfl⟩,fun j K=>by rw [yG] at K; split at K <;> simp at K⟩
    ·rintro xx xj xm ⟨f,rfl,xh,hD⟩ hx xL
     have xn:=zO xL hx (by kernel_rfl)
     have k12:xx[12]? = some true:=xn 12 (by simp)
     have kO:f 13 = .bool fb:=hD 13 (xn 13 (by simp))
     obtain ⟨pb,vI,hpb,-,vj⟩:=hD 11 (xn 11 (by simp))
     obtain ⟨kF,hplt⟩:=vj k12
     have vx:=Y (dk (U hM) xh)
     have qZ:=Y (zk (U hK) (zB xh (U hM).le))
     have o0:=zb (U ph) xh hl3 0 _ rfl
     have o1:=zb (U ph) xh hl3 1 _ rfl
     have o2:=zb (U ph) xh hl3 2 _ rfl
     have o3:=zb (U ph) xh hl3 3 _ rfl
     have o4:=zb (U ph) xh hl3 4 _ rfl
     have o5:=zb (U ph) xh hl3 5 _ rfl
     have HRG:=Y kF
     obtain ⟨p0,p1,p2,p3,p4,p5⟩:=zz kF
     simp only [Nat.zero_add] at o0 o1 o2 o3 o4 o5 p0 p1 p2 p3 p4 p5
     dsimp only
     simp only [kO,vI]
     generalize f 0 = b0,f 1 = b1,f 2 = b2,f 3 = b3,f 4 = b4,f 5 = b5,f 6 = b6,f 7 = b7,f 8 = b8,f 9 = b9,f 10 = b10
     clear hD xn xL hx k12 vj xh vI kO kF hpb f xx y5
     cases fb
     ·have pU:Hid (qt = (ll,lf,ts)):=mi_none (U hI) (by have:=U HFO; simpa using this)
      clear o0 o1 o2 o3 o4 o5 p0 p1 p2 p3 p4 p5
      have xE:xm.there (w.heap.size + 1 + 1) 0 9:=fun j K=>by
       have O:=(U qZ).block (w.heap.size + 1 + 1) (by have:=U kz; omega) (by have:=U kz; have:=U HMB; omega)
       have:=(U HX).2.2 j K
       rw [yO (a:=(J (w.heap.size + 1 + 1) (0 + j))) O,World.frozen?_of_block (a:=(J (w.heap.size + 1 + 1) (0 + j))) O]
       exact this
      have ua:=Y (match_end (U vx) (U qZ) (U xP) (U kz) (U HMB) [H (next + 1),.slice aq ll.length cq,H next,H s,H (tk pr),H lf,H li,yj L,.slice av ts.length cv] rfl xE)
      have c0:=(U vx).cells 0 _ rfl
      have c1:=(U vx).cells 1 _ rfl
      have c2:=(U vx).cells 2 _ rfl
      have c3:=(U vx).cells 3 _ rfl
      have c4:=(U vx).cells 4 _ rfl
      have c5:=(U vx).cells 5 _ rfl
      have c6:=(U vx).cells 6 _ rfl
      have c7:=(U vx).cells 7 _ rfl
      have c8:=(U vx).cells 8 _ rfl
      simp only [Nat.zero_add] at c0 c1 c2 c3 c4 c5 c6 c7 c8
      obtain ⟨v0,z0,q0⟩:=zH xE 0 (by omega)
      obtain ⟨v1,z1,q1⟩:=zH xE 1 (by omega)
      obtain ⟨v2,z2,q2⟩:=zH xE 2 (by omega)
      obtain ⟨v3,z3,q3⟩:=zH xE 3 (by omega)
      obtain ⟨v4,z4,q4⟩:=zH xE 4 (by omega)
      obtain ⟨v5,z5,q5⟩:=zH xE 5 (by omega)
      obtain ⟨v6,z6,q6⟩:=zH xE 6 (by omega)
      obtain ⟨v7,z7,q7⟩:=zH xE 7 (by omega)
      obtain ⟨v8,z8,q8⟩:=zH xE 8 (by omega)
      simp only [Nat.zero_add] at z0 q0 z1 q1 z2 q2 z3 q3 z4 q4 z5 q5 z6 q6 z7 q7 z8 q8
      clear xE
      go_wp2_with fail
      try simp (config:={ zetaDelta:=true }) only [Exit.noGoto_ret]
      change bodyPost _ _ _ _ _ (xm.setCells (w.heap.size + 1 + 1) 0 [H (next + 1),.slice aq ll.length cq,H next,H s,H (tk pr),H lf,H li,yj L,.slice av ts.length cv])
      generalize xm.setCells (w.heap.size + 1 + 1) 0 [H (next + 1),.slice aq ll.length cq,H next,H s,H (tk pr),H lf,H li,yj L,.slice av ts.length cv] = WE at ua ⊢
      obtain ⟨d0,d1,d2,d3,d4,d5,d6,d7,d8⟩:=yC (U ua).1
      try simp only [Exit.inBlock,Exit.then]
      refine bodyPost_ret (by simp [results,Tryz.results112,go_sem,d0,d1,d2,d3,d4,d5,d6,d7,d8]; try rfl) rfl ?_
      rw [U pU]
      exact ⟨_,_,rfl,(U ua).2.1,(U ua).2.2.1,(U ua).2.2.2⟩
     ·have HFO:Hid (aI ll (othS s) = some x):=by show _ = _; have:=U HFO; simpa using this
      go_wp2_with fail
      refine (meets_any ⟨kk,s,ty,li,F,ii,pr,L⟩ x xm).mono ?_
      rintro e w5 ⟨rfl,vD⟩
      have HM5:=Y (dk (U vx) vD)
      have kj:=Y (zk (U qZ) (zB vD (U vx).le))
      obtain ⟨s0,s1,s2,s3,s4,s5⟩:=zz (zb (U HRG) vD hplt)
      simp only [Nat.zero_add] at s0 s1 s2 s3 s4 s5
      clear o0 o1 o2 o3 o4 o5 p0 p1 p2 p3 p4 p5 vD
      cases hme:aN ⟨kk,s,ty,li,F,ii,pr,L⟩ x
      ·have pU:Hid (qt = (ll,lf,ts)):=mi_stop (U hI) (U HFO) hme
       clear s0 s1 s2 s3 s4 s5 hme
       have xE:w5.there (w.heap.size + 1 + 1) 0 9:=fun j K=>by
        have O:=(U kj).block (w.heap.size + 1 + 1) (by have:=U kz; omega) (by have:=U kz; have:=U HMB; omega)
        have:=(U HX).2.2 j K
        rw [yO (a:=(J (w.heap.size + 1 + 1) (0 + j))) O,World.frozen?_of_block (a:=(J (w.heap.size + 1 + 1) (0 + j))) O]
        exact this
       have ua:=Y (match_end (U HM5) (U kj) (U xP) (U kz) (U HMB) [H (next + 1),.slice aq ll.length cq,H next,H s,H (tk pr),H lf,H li,yj L,.slice av ts.length cv] rfl xE)
       have c0:=(U HM5).cells 0 _ rfl
       have c1:=(U HM5).cells 1 _ rfl
       have c2:=(U HM5).cells 2 _ rfl
       have c3:=(U HM5).cells 3 _ rfl
       have c4:=(U HM5).cells 4 _ rfl
       have c5:=(U HM5).cells 5 _ rfl
       have c6:=(U HM5).cells 6 _ rfl
       have c7:=(U HM5).cells 7 _ rfl
       have c8:=(U HM5).cells 8 _ rfl
       simp only [Nat.zero_add] at c0 c1 c2 c3 c4 c5 c6 c7 c8
       obtain ⟨v0,z0,q0⟩:=zH xE 0 (by omega)
       obtain ⟨v1,z1,q1⟩:=zH xE 1 (by omega)
       obtain ⟨v2,z2,q2⟩:=zH xE 2 (by omega)
       obtain ⟨v3,z3,q3⟩:=zH xE 3 (by omega)
       obtain ⟨v4,z4,q4⟩:=zH xE 4 (by omega)
       obtain ⟨v5,z5,q5⟩:=zH xE 5 (by omega)
       obtain ⟨v6,z6,q6⟩:=zH xE 6 (by omega)
       obtain ⟨v7,z7,q7⟩:=zH xE 7 (by omega)
       obtain ⟨v8,z8,q8⟩:=zH xE 8 (by omega)
       simp only [Nat.zero_add] at z0 q0 z1 q1 z2 q2 z3 q3 z4 q4 z5 q5 z6 q6 z7 q7 z8 q8
       clear xE
       go_wp2_with fail
       try simp (config:={ zetaDelta:=true }) only [Exit.noGoto_ret]
       change bodyPost _ _ _ _ _ (w5.setCells (w.heap.size + 1 + 1) 0 [H (next + 1),.slice aq ll.length cq,H next,H s,H (tk pr),H lf,H li,yj L,.slice av ts.length cv])
       generalize w5.setCells (w.heap.size + 1 + 1) 0 [H (next + 1),.slice aq ll.length cq,H next,H s,H (tk pr),H lf,H li,yj L,.slice av ts.length cv] = WE at ua ⊢
       obtain ⟨d0,d1,d2,d3,d4,d5,d6,d7,d8⟩:=yC (U ua).1
       try simp only [Exit.inBlock,Exit.then]
       refine bodyPost_ret (by simp [results,Tryz.results112,go_sem,d0,d1,d2,d3,d4,d5,d6,d7,d8]; try rfl) rfl ?_
       rw [U pU]
       exact ⟨_,_,rfl,(U ua).2.1,(U ua).2.2.1,(U ua).2.2.2⟩
      ·obtain ⟨k,jp,pD,hI6,hms⟩:=mi_step (U hI) oV (U HFO) hme
       have hxm:=(U kI).left x (yM pD)
       have uI:Hid (_∧_∧_∧_):=⟨jp,pD,hI6,hms⟩
       have hl1:=(U hI).l1
       have kS:=(U kI).len
       have hfew:=(U hI).few
       have uG:Hid (0 ≤ lf∧lf ≤ 1000000∧0 ≤ x.left∧x.left ≤ 1000000∧ll.length ≤ 1000∧ts.length ≤ 1000):=⟨by omega,by omega,by omega,by omega,by omega,by omega⟩
       clear jp pD hI6 hms hme hxm hl1 kS hfew
       go_wp2_with fail
       refine (trade_any mb W3.heap.size (next + 1) _ ll ⟨next,s,tk pr,lf,li,L⟩ _ ts x k w5 (U HM5) (U uI).1 (U uI).2.1 (U uG).2.2.2.2.1 (U uG).2.2.2.2.2 (U uG).1 (U uG).2.1 (U uG).2.2.1 (U uG).2.2.2.1 _ rfl).mono ?_
       rintro e w6 ⟨vw,vt',rfl,hM6,hK6⟩
       have HM6:=Y hM6
       have pV:=Y hK6
       clear hM6 hK6 s0 s1 s2 s3 s4 s5
       go_wp2_with fail
       dsimp only [H,I,J]
       go_roundw
       case rel=>exact ⟨vw,_,_,vt',_,U HM6,(U uI).2.2.1,zk (U kj) (U pV)⟩
       case measure =>
        rw [meas_eq (U HM6),meas_eq (U hM)]
        have:=(U uI).2.2.2
        simp only [if_pos oV]
        exact this
    ·rintro xx xj xm i op ⟨f,rfl,xh,hD⟩ X hx Z xu Q
     have n12':i ≠ 10→i < 12→¬ xx[12]? = some true:=fun xA xI qA=>by
      have uY:=ye X 12 rfl qA 11 rfl
      have h9:=ye X 12 rfl qA 9 rfl
      have h8:=ye X 9 rfl h9 8 rfl
      have h7:=ye X 8 rfl h8 7 rfl
      have h6:=ye X 7 rfl h7 6 rfl
      have h5:=ye X 6 rfl h6 5 rfl
      have G:=ye X 5 rfl h5 1 rfl
      have h4:=ye X 5 rfl h5 4 rfl
      have h0:=ye X 1 rfl G 0 rfl
      have h3:=ye X 4 rfl h4 3 rfl
      have D:=ye X 3 rfl h3 2 rfl
      have uk:∀ j,j ≠ 10→j < 12→xx[j]? = some true:=fun j jz K=>by
       rcases (by omega:j = 0 ∨ j = 1 ∨ j = 2 ∨ j = 3 ∨ j = 4 ∨ j = 5 ∨ j = 6 ∨ j = 7 ∨ j = 8 ∨ j = 9 ∨ j = 11) with rfl | rfl | rfl | rfl | rfl | rfl | rfl | rfl | rfl | rfl | rfl <;> assumption
      rw [uk i xA xI] at xu; cases xu
     clear X y5
     have uy:=Y xh
     have HD:=Y hD
     have jF:=Y (zh (U HRW) xh hb)
     have z0:=zb (U hM).cells xh (U hM).lt 0 _ rfl
     have z1:=zb (U hM).cells xh (U hM).lt 1 _ rfl
     have o0:=zb (U ph) xh hl3 0 _ rfl
     rw [Nat.zero_add] at z0 z1 o0
     match i,Z with
    | 0,Z =>
     obtain rfl:=ya Z
     clear Q hD xh
     rw [if_pos (by rfl)];unfold Oper.wp;go_simp
     exact ⟨upd f 0 (I mb 0),by simp [upd],zd (U uy) (U HD) (by decide) rfl⟩
    | 1,Z =>
     obtain rfl:=ya Z
     have g:f 0 = I mb 0:=hD 0 (yd Q 0 rfl)
     clear Q hD xh
     rw [if_pos (by rfl)];unfold Oper.wp;go_simp
     exact ⟨upd f 1 (.agg #[H (next + 1),.slice aq ll.length cq]),by simp [upd,g],zd (U uy) (U HD) (by decide) rfl⟩
    | 2,Z =>
     obtain rfl:=ya Z
     clear Q hD xh
     rw [if_pos (by rfl)];unfold Oper.wp;go_simp
     exact ⟨upd f 2 (I (w.heap.size + 1) 0),by simp [upd],zd (U uy) (U HD) (by decide) rfl⟩
    | 3,Z =>
     obtain rfl:=ya Z
     have g:f 2 = I (w.heap.size + 1) 0:=hD 2 (yd Q 2 rfl)
     clear Q hD xh
     rw [if_pos (by rfl)];unfold Oper.wp;go_simp
     exact ⟨upd f 3 (H s),by simp [upd,g],zd (U uy) (U HD) (by decide) rfl⟩
    | 4,Z =>
     obtain rfl:=ya Z
     have g:f 3 = H s:=hD 3 (yd Q 3 rfl)
     clear Q hD xh
     rw [if_pos (by rfl)];unfold Oper.wp;go_simp
     refine (otherSide_any s xm).mono ?_
     rw [U HSD]
     rintro e w4 ⟨rfl,rfl⟩
     exact ⟨upd f 4 (H sd),by simp [upd,g],zd (U uy) (U HD) (by decide) rfl⟩
    | 5,Z =>
     obtain rfl:=ya Z
     have g1:f 1 = .agg #[H (next + 1),.slice aq ll.length cq]:=hD 1 (yd Q 1 rfl)
     have g4:f 4 = H sd:=hD 4 (yd Q 4 rfl)
     have pR:=n12' (by omega) (by omega)
     clear Q hD xh
     rw [if_pos (by rfl)];unfold Oper.wp;go_simp
     by_cases uC:sd = 1
     ·subst uC
      refine (sideOf_buy (next + 1) _ ll xm (U jF) (U kI).len (U HLB)).mono ?_
      rintro e w4 ⟨b,rfl,ht,jb,xy⟩
      exact ⟨upd f 5 (bd b),by simp [upd,g1,g4],aT (U uy) (U HD) xy (by decide) (dq_grow pR xy) (fun _=>.inl ⟨rfl,b,rfl,ht⟩)⟩
     ·refine (ep (next + 1) sd uC _ ll xm (U jF) (U kI).len (U HLB)).mono ?_
      rintro e w4 ⟨b,rfl,ht,jb,xy⟩
      exact ⟨upd f 5 (bh b),by simp [upd,g1,g4],aT (U uy) (U HD) xy (by decide) (dq_grow pR xy) (fun _=>.inr ⟨uC,b,rfl,ht⟩)⟩
    | 6,Z =>
     obtain rfl:=ya Z
     have pR:=n12' (by omega) (by omega)
     rcases hD 5 (yd Q 5 rfl) pR with ⟨uC,b,g5,ht⟩ | ⟨uC,b,g5,ht⟩
     ·subst uC
      have HT:=Y ht
      have hfl:=field0_bm b xm
      clear Q hD xh ht
      rw [if_pos (by rfl)];unfold Oper.wp;go_simp
      exact ⟨upd f 6 (.func (.func 122) #[I b 0] #[]),by simp [upd,g5],zd (U uy) (U HD) (by decide) (fun _=>.inl ⟨rfl,b,rfl,U HT⟩)⟩
     ·have HT:=Y ht
      have hfl:=field0_sm b xm
      clear Q hD xh ht
      rw [if_pos (by rfl)];unfold Oper.wp;go_simp
      exact ⟨upd f 6 (.func (.func 126) #[I b 0] #[]),by simp [upd,g5],zd (U uy) (U HD) (by decide) (fun _=>.inr ⟨uC,b,rfl,U HT⟩)⟩
    | 7,Z =>
     obtain rfl:=ya Z
     have pR:=n12' (by omega) (by omega)
     rcases hD 6 (yd Q 6 rfl) pR with ⟨uC,b,g6,ht⟩ | ⟨uC,b,g6,ht⟩
     ·subst uC
      have HT:=Y ht
      have HE:Hid (frOf (quOf true (zo ll 1)) = .tuple #[.agg (yu x.id x.side x.ticks x.left x.life x.tag).toArray,.bool fb]):=by
       show _ = _
       have:=U HFR
       simpa using this
      clear Q hD xh ht
      rw [if_pos (by rfl)];unfold Oper.wp;go_simp
      refine (front_b b 1 (zo ll 1) xm (U HT) (yL (List.length_filter_le _ _) (U kI).len)).mono ?_
      rw [U HE]
      rintro e w4 ⟨rfl,xy⟩
      exact ⟨upd f 7 (.tuple #[.agg (yu x.id x.side x.ticks x.left x.life x.tag).toArray,.bool fb]),by simp [upd,g6],aT (U uy) (U HD) xy (by decide) (dq_grow pR xy) rfl⟩
     ·have HT:=Y ht
      have HE:Hid (frOf (quOf false (zo ll sd)) = .tuple #[.agg (yu x.id x.side x.ticks x.left x.life x.tag).toArray,.bool fb]):=by
       have:=U HFR
       rw [decide_eq_false uC] at this
       exact this
      clear Q hD xh ht
      rw [if_pos (by rfl)];unfold Oper.wp;go_simp
      refine (front_s b sd (zo ll sd) xm (U HT) (yL (List.length_filter_le _ _) (U kI).len)).mono ?_
      rw [U HE]
      rintro e w4 ⟨rfl,xy⟩
      exact ⟨upd f 7 (.tuple #[.agg (yu x.id x.side x.ticks x.left x.life x.tag).toArray,.bool fb]),by simp [upd,g6],aT (U uy) (U HD) xy (by decide) (dq_grow pR xy) rfl⟩
    | 8,Z =>
     obtain rfl:=ya Z
     have g:f 7 = .tuple #[.agg (yu x.id x.side x.ticks x.left x.life x.tag).toArray,.bool fb]:=hD 7 (yd Q 7 rfl)
     clear Q hD xh
     rw [if_pos (by rfl)];unfold Oper.wp;go_simp
     exact ⟨upd f 8 (.tuple #[.agg (yu x.id x.side x.ticks x.left x.life x.tag).toArray,.bool fb]),by simp [upd,g],zd (U uy) (U HD) (by decide) rfl⟩
    | 9,Z =>
     obtain rfl:=ya Z
     have g:f 8 = .tuple #[.agg (yu x.id x.side x.ticks x.left x.life x.tag).toArray,.bool fb]:=hD 8 (yd Q 8 rfl)
     clear Q hD xh
     rw [if_pos (by rfl)];unfold Oper.wp;go_simp
     exact ⟨upd f 9 (.agg (yu x.id x.side x.ticks x.left x.life x.tag).toArray),by simp [upd,g],zd (U uy) (U HD) (by decide) rfl⟩
    | 10,Z =>
     obtain rfl:=ya Z
     have g:f 8 = .tuple #[.agg (yu x.id x.side x.ticks x.left x.life x.tag).toArray,.bool fb]:=hD 8 (yd Q 8 rfl)
     clear Q hD xh
     rw [if_pos (by rfl)];unfold Oper.wp;go_simp
     exact ⟨upd f 10 (.bool fb),by simp [upd,g],zd (U uy) (U HD) (by decide) rfl⟩
    | 11,Z =>
     obtain rfl:=ya Z
     have pR:=n12' (by omega) (by omega)
     clear Q hD xh
     rw [if_pos (by rfl)];unfold Oper.wp;go_simp
     have xy:=eB xm (N (yu 0 0 0 0 0 ⟨#[]⟩).toArray 49)
     exact ⟨upd f 11 (yn xm 0),by simp [upd],aT (U uy) (U HD) xy (by decide) (dq_grow pR xy) ⟨xm.heap.size,rfl,(U uy).size,fun _=>⟨zt xm (yu 0 0 0 0 0 ⟨#[]⟩) _,by rw [zf]; omega⟩,fun h=>absurd h pR⟩⟩
    | 12,Z =>
     obtain rfl:=ya Z
     have pR:¬ xx[12]? = some true:=by rw [xu]; simp
     have g9:f 9 = .agg (yu x.id x.side x.ticks x.left x.life x.tag).toArray:=hD 9 (yd Q 9 rfl)
     obtain ⟨pb,vI,hpb,xE,-⟩:=hD 11 (yd Q 11 rfl)
     obtain ⟨xE,hplt⟩:=xE pR
     have jG:=Y xE
     obtain ⟨u0,y0,q0⟩:=zH xE 0 (by omega)
     obtain ⟨u1,y1,q1⟩:=zH xE 1 (by omega)
     obtain ⟨u2,y2,q2⟩:=zH xE 2 (by omega)
     obtain ⟨u3,y3,q3⟩:=zH xE 3 (by omega)
     obtain ⟨u4,y4,q4⟩:=zH xE 4 (by omega)
     obtain ⟨u5,y5,q5⟩:=zH xE 5 (by omega)
     simp only [Nat.zero_add] at y0 q0 y1 q1 y2 q2 y3 q3 y4 q4 y5 q5
     clear Q hD xh xE
     rw [if_pos (by rfl)];unfold Oper.wp;go_simp
     refine ⟨upd f 12 M,by simp [upd,g9,vI],rgx_last (zm pb hpb (yu x.id x.side x.ticks x.left x.life x.tag) 0 xm (U uy)) (U HD) xu (fun j K hxj h=>dq_last j K h (fun hj11=>?_)) trivial⟩
     subst hj11
     refine ⟨pb,vI,hpb,fun h=>absurd trivial h,fun _=>⟨?_,?_⟩⟩
     ·exact yV xm pb 0 (yu x.id x.side x.ticks x.left x.life x.tag) (fun j K=>U jG j K)
     ·show pb < (xm.setCells pb 0 (yu x.id x.side x.ticks x.left x.life x.tag)).heap.size
      simp only [World.setCells,World.setCell,Array.size_modify]; exact hplt
    | 13,Z =>
     obtain rfl:=ya Z
     have g:f 10 = .bool fb:=hD 10 (yd Q 10 rfl)
     clear Q hD xh
     rw [if_pos (by rfl)];unfold Oper.wp;go_simp
     exact ⟨upd f 13 (.bool fb),by simp [upd,g],zd (U uy) (U HD) (by decide) rfl⟩
    | i + 14,Z=>simp at Z
   ·have pU:Hid (qt = (ll,lf,ts)):=mi_done (U hI) oV
    have xE:wr.there (w.heap.size + 1 + 1) 0 9:=fun j K=>by
     have O:=(U hK).block (w.heap.size + 1 + 1) (by have:=U kz; omega) (by have:=U kz; have:=U HMB; omega)
     have:=(U HX).2.2 j K
     rw [yO (a:=(J (w.heap.size + 1 + 1) (0 + j))) O,World.frozen?_of_block (a:=(J (w.heap.size + 1 + 1) (0 + j))) O]
     exact this
    have ua:=Y (match_end (U hM) (U hK) (U xP) (U kz) (U HMB) [H (next + 1),.slice aq ll.length cq,H next,H s,H (tk pr),H lf,H li,yj L,.slice av ts.length cv] rfl xE)
    have c0:=(U hM).cells 0 _ rfl
    have c1:=(U hM).cells 1 _ rfl
    have c2:=(U hM).cells 2 _ rfl
    have c3:=(U hM).cells 3 _ rfl
    have c4:=(U hM).cells 4 _ rfl
    have c5:=(U hM).cells 5 _ rfl
    have c6:=(U hM).cells 6 _ rfl
    have c7:=(U hM).cells 7 _ rfl
    have c8:=(U hM).cells 8 _ rfl
    simp only [Nat.zero_add] at c0 c1 c2 c3 c4 c5 c6 c7 c8
    obtain ⟨v0,z0,q0⟩:=zH xE 0 (by omega)
    obtain ⟨v1,z1,q1⟩:=zH xE 1 (by omega)
    obtain ⟨v2,z2,q2⟩:=zH xE 2 (by omega)
    obtain ⟨v3,z3,q3⟩:=zH xE 3 (by omega)
    obtain ⟨v4,z4,q4⟩:=zH xE 4 (by omega)
    obtain ⟨v5,z5,q5⟩:=zH xE 5 (by omega)
    obtain ⟨v6,z6,q6⟩:=zH xE 6 (by omega)
    obtain ⟨v7,z7,q7⟩:=zH xE 7 (by omega)
    obtain ⟨v8,z8,q8⟩:=zH xE 8 (by omega)
    simp only [Nat.zero_add] at z0 q0 z1 q1 z2 q2 z3 q3 z4 q4 z5 q5 z6 q6 z7 q7 z8 q8
    clear xE
    go_wp2_with fail
    try simp (config:={ zetaDelta:=true }) only [Exit.noGoto_ret]
    change bodyPost _ _ _ _ _ (wr.setCells (w.heap.size + 1 + 1) 0 [H (next + 1),.slice aq ll.length cq,H next,H s,H (tk pr),H lf,H li,yj L,.slice av ts.length cv])
    generalize wr.setCells (w.heap.size + 1 + 1) 0 [H (next + 1),.slice aq ll.length cq,H next,H s,H (tk pr),H lf,H li,yj L,.slice av ts.length cv] = WE at ua ⊢
    obtain ⟨d0,d1,d2,d3,d4,d5,d6,d7,d8⟩:=yC (U ua).1
    try simp only [Exit.inBlock,Exit.then]
    refine bodyPost_ret (by simp [results,Tryz.results112,go_sem,d0,d1,d2,d3,d4,d5,d6,d7,d8]; try rfl) rfl ?_
    rw [U pU]
    exact ⟨_,_,rfl,(U ua).2.1,(U ua).2.2.1,(U ua).2.2.2⟩
 ·rintro x xj V i op ⟨f,rfl,xh,hD⟩ X hx Z xu Q
  have n8':i < 8→¬ x[8]? = some true:=fun xI h8=>by
   have h7:=ye X 8 rfl h8 7 rfl
   have h6:=ye X 8 rfl h8 6 rfl
   have h5:=ye X 6 rfl h6 5 rfl
   have G:=ye X 6 rfl h6 1 rfl
   have h0:=ye X 1 rfl G 0 rfl
   have D:=ye X 5 rfl h5 2 rfl
   have h4:=ye X 5 rfl h5 4 rfl
   have h3:=ye X 4 rfl h4 3 rfl
   have uk:∀ j,j < 8→x[j]? = some true:=fun j K=>by
    rcases (by omega:j = 0 ∨ j = 1 ∨ j = 2 ∨ j = 3 ∨ j = 4 ∨ j = 5 ∨ j = 6 ∨ j = 7) with rfl | rfl | rfl | rfl | rfl | rfl | rfl | rfl <;> assumption
   rw [uk i xI] at xu; cases xu
  clear X
  have xr:=Y xh
  have HD:=Y hD
  have qM:=Y (zh (U HR3) xh hb)
  have z0:=zb (U HX).1 xh (by omega) 0 _ rfl
  have z1:=zb (U HX).1 xh (by omega) 1 _ rfl
  have o0:=zb (U HX).2.1 xh (by omega) 0 _ rfl
  have o1:=zb (U HX).2.1 xh (by omega) 1 _ rfl
  have o2:=zb (U HX).2.1 xh (by omega) 2 _ rfl
  have o3:=zb (U HX).2.1 xh (by omega) 3 _ rfl
  have o4:=zb (U HX).2.1 xh (by omega) 4 _ rfl
  have o5:=zb (U HX).2.1 xh (by omega) 5 _ rfl
  rw [Nat.zero_add] at z0 z1 o0 o1 o2 o3 o4 o5
  clear hw3
  match i,Z with
  | 0,Z =>
   obtain rfl:=ya Z
   clear Q hD xh
   rw [if_pos (by rfl)];unfold Oper.wp;go_simp
   exact ⟨upd f 0 (.agg #[H next,.slice a l.length A]),by simp [upd],zd (U xr) (U HD) (by decide) rfl⟩
  | 1,Z =>
   obtain rfl:=ya Z
   have g:f 0 = .agg #[H next,.slice a l.length A]:=hD 0 (yd Q 0 rfl)
   have n8:=n8' (by omega)
   clear Q hD xh
   rw [if_pos (by rfl)];unfold Oper.wp;go_simp
   refine (copyBook_any next _ l V (U qM) hsl (by omega)).mono ?_
   rintro e w4 ⟨v4,rfl,kr,xy⟩
   obtain ⟨a4,c4,rfl⟩:=rd_lenF (zR kr (by omega))
   exact ⟨upd f 1 (.agg #[H next,.slice a4 l.length c4]),by simp [upd,g],aT (U xr) (U HD) xy (by decide) (dm_grow n8 xy) ⟨a4,c4,rfl,fun _=>bS kr (U xr).size⟩⟩
  | 2,Z =>
   obtain rfl:=ya Z
   clear Q hD xh
   rw [if_pos (by rfl)];unfold Oper.wp;go_simp
   exact ⟨upd f 2 (.agg #[H s,H ty,H li,H F,yi pr,yj L]),by simp [upd],zd (U xr) (U HD) (by decide) rfl⟩
  | 3,Z =>
   obtain rfl:=ya Z
   clear Q hD xh
   rw [if_pos (by rfl)];unfold Oper.wp;go_simp
   exact ⟨upd f 3 (yn w 0),by simp [upd],zd (U xr) (U HD) (by decide) rfl⟩
  | 4,Z =>
   obtain rfl:=ya Z
   have g:f 3 = yn w 0:=hD 3 (yd Q 3 rfl)
   clear Q hD xh
   rw [if_pos (by rfl)];unfold Oper.wp;go_simp
   exact ⟨upd f 4 (H next),by simp [upd,g],zd (U xr) (U HD) (by decide) rfl⟩
  | 5,Z =>
   obtain rfl:=ya Z
   have g2:f 2 = .agg #[H s,H ty,H li,H F,yi pr,yj L]:=hD 2 (yd Q 2 rfl)
   have g4:f 4 = H next:=hD 4 (yd Q 4 rfl)
   have n8:=n8' (by omega)
   clear Q hD xh
   rw [if_pos (by rfl)];unfold Oper.wp;go_simp
   refine (order_any ⟨kk,s,ty,li,F,ii,pr,L⟩ next V).mono ?_
   rintro e w4 ⟨rfl,xy⟩
   exact ⟨upd f 5 (.agg (yu next s (tk pr) F li L).toArray),by simp [upd,g2,g4],aT (U xr) (U HD) xy (by decide) (dm_grow n8 xy) rfl⟩
  | 6,Z =>
   obtain rfl:=ya Z
   obtain ⟨a4,c4,g1,vZ⟩:=hD 1 (yd Q 1 rfl)
   have g5:f 5 = .agg (yu next s (tk pr) F li L).toArray:=hD 5 (yd Q 5 rfl)
   have vl:=Y vZ
   clear Q hD xh vZ
   rw [if_pos (by rfl)];unfold Oper.wp;go_simp
   exact ⟨upd f 6 (.agg #[H next,.slice a4 l.length c4,H next,H s,H (tk pr),H F,H li,yj L,.slice none 0 0]),by simp [upd,g1,g5],zd (U xr) (U HD) (by decide) ⟨a4,c4,rfl,U vl⟩⟩
  | 7,Z =>
   obtain rfl:=ya Z
   have n8:=n8' (by omega)
   clear Q hD xh
   rw [if_pos (by rfl)];unfold Oper.wp;go_simp
   have xy:=eB V (N #[H 0,.slice none 0 0,H 0,H 0,H 0,H 0,H 0,yj ⟨#[]⟩,.slice none 0 0] 157)
   exact ⟨upd f 7 (yn V 0),by simp [upd],aT (U xr) (U HD) xy (by decide) (dm_grow n8 xy) ⟨V.heap.size,rfl,(U xr).size,fun _=>⟨zt V [H 0,.slice none 0 0,H 0,H 0,H 0,H 0,H 0,yj ⟨#[]⟩,.slice none 0 0] _,_,heap_alloc_new V _⟩,fun h=>absurd h n8⟩⟩
  | 8,Z =>
   obtain rfl:=ya Z
   have n8:¬ x[8]? = some true:=by rw [xu]; simp
   obtain ⟨a4,c4,g6,ho6⟩:=hD 6 (yd Q 6 rfl)
   obtain ⟨mb,g7,hmb,xE,-⟩:=hD 7 (yd Q 7 rfl)
   obtain ⟨xE,vp⟩:=xE n8
   have HO6:=Y (ho6 n8)
   have jG:=Y xE
   have uy:=Y vp
   obtain ⟨u0,y0,q0⟩:=zH xE 0 (by omega)
   obtain ⟨u1,y1,q1⟩:=zH xE 1 (by omega)
   obtain ⟨u2,y2,q2⟩:=zH xE 2 (by omega)
   obtain ⟨u3,y3,q3⟩:=zH xE 3 (by omega)
   obtain ⟨u4,y4,q4⟩:=zH xE 4 (by omega)
   obtain ⟨u5,y5,q5⟩:=zH xE 5 (by omega)
   obtain ⟨u6,y6,q6⟩:=zH xE 6 (by omega)
   obtain ⟨u7,y7,q7⟩:=zH xE 7 (by omega)
   obtain ⟨u8,y8,q8⟩:=zH xE 8 (by omega)
   simp only [Nat.zero_add] at y0 q0 y1 q1 y2 q2 y3 q3 y4 q4 y5 q5 y6 q6 y7 q7 y8 q8
   clear Q hD xh ho6 xE vp
   rw [if_pos (by rfl)];unfold Oper.wp;go_simp
   refine ⟨upd f 8 M,by simp [upd,g6,g7],rgx_last (zm mb hmb [H next,.slice a4 l.length c4,H next,H s,H (tk pr),H F,H li,yj L,.slice none 0 0] 0 V (U xr)) (U HD) xu (fun j K hxj h=>dm_last j K h (fun hj7=>?_)) trivial⟩
   subst hj7
   refine ⟨mb,g7,hmb,fun h=>absurd trivial h,fun _=>⟨a4,c4,?_⟩⟩
   exact matS_made (c:=⟨kk,s,ty,li,F,ii,pr,L⟩) (U jG) (U uy) (U HO6) (by have:=(U xr).size; omega)
  | i + 9,Z=>simp at Z
end Go.Proofs.YtbakanofkghmiaaGreat
