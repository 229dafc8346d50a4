/-
  What comes of a new order, by the program: proved by walking the function.
-/
import Derived.Test.YtbakanofkghmiaaGreatTj18
import Derived.WalkMore
set_option linter.unusedVariables false
set_option maxHeartbeats 6400000
set_option maxRecDepth 100000
namespace Go.Proofs.YtbakanofkghmiaaGreat
open Go.RowKit
theorem match_any (next:Int) (vb:Value) (l:List Od) (c:Cm) (w:World) (hr:RdR Od.vs 6 w vb l) (hs:SlOk vb) (hg:GoodL l) (h0:0 ≤ next) (Q:next ≤ 1000000) (jf:0 ≤ c.q) (qW:c.q ≤ 1000000) :
  Calls Tryz.prog 112 #[.agg #[H next,vb],noV c] w fun e w'=>∃ vq vt,e = yl (.agg #[H (next + 1),vq,H next,H c.s,H (tk c.p),H (matL c next 21 l c.q []).2.1,H c.l,yj c.g,vt])∧ORow w' w.heap.size vq (matL c next 21 l c.q []).1∧ERow w' w.heap.size vt (matL c next 21 l c.q []).2.2∧ym w w':=by
 have HR:=Y hr
 have HG:=Y hg
 have hsl:=hs
 have HMI:=Y (mi_start (c:=c) (id:=next) hg jf qW)
 have hn:=hg.len
 obtain ⟨a,E,rfl,xB,hc⟩:=hr
 generalize hF:matL c next 21 l c.q [] = hb at HMI ⊢
 clear hF hc hg hs
 obtain ⟨kk,s,ty,li,O,ii,pr,K⟩:=c
 unfold noV
 simp only at *
 have xy:=zf w (D #[H next,.slice a l.length E] 28)
 have xY:((w.alloc (D #[H next,.slice a l.length E] 28)).alloc (D #[H s,H ty,H li,H O,yi pr,yj K] 112)).heap.size = w.heap.size + 1 + 1:=by rw [zf,xy]
 have jg:(((w.alloc (D #[H next,.slice a l.length E] 28)).alloc (D #[H s,H ty,H li,H O,yi pr,yj K] 112)).alloc (D #[H 0,.slice none 0 0,H 0,H 0,H 0,H 0,H 0,yj ⟨#[]⟩,.slice none 0 0] 157)).heap.size = w.heap.size + 1 + 1 + 1:=by rw [zf,xY]
 have r1:=zg w [H next,.slice a l.length E] 28
 have r2:=zg (w.alloc (D #[H next,.slice a l.length E] 28)) [H s,H ty,H li,H O,yi pr,yj K] 112
 rw [xy] at r2
 have t3:=zt ((w.alloc (D #[H next,.slice a l.length E] 28)).alloc (D #[H s,H ty,H li,H O,yi pr,yj K] 112)) [H 0,.slice none 0 0,H 0,H 0,H 0,H 0,H 0,yj ⟨#[]⟩,.slice none 0 0] 157
 rw [xY] at t3
 have xW:Hid (ym w (((w.alloc (D #[H next,.slice a l.length E] 28)).alloc (D #[H s,H ty,H li,H O,yi pr,yj K] 112)).alloc (D #[H 0,.slice none 0 0,H 0,H 0,H 0,H 0,H 0,yj ⟨#[]⟩,.slice none 0 0] 157))):=((dm _ _).alloc (by rw [xy]; omega) _).alloc (by rw [xY]; omega) _
 have b23:Below (w.heap.size + 1 + 1) ((w.alloc (D #[H next,.slice a l.length E] 28)).alloc (D #[H s,H ty,H li,H O,yi pr,yj K] 112)) (((w.alloc (D #[H next,.slice a l.length E] 28)).alloc (D #[H s,H ty,H li,H O,yi pr,yj K] 112)).alloc (D #[H 0,.slice none 0 0,H 0,H 0,H 0,H 0,H 0,yj ⟨#[]⟩,.slice none 0 0] 157)):=(Below.refl _ _).alloc (by rw [xY]; omega) _
 have qg:Below (w.heap.size + 1) (w.alloc (D #[H next,.slice a l.length E] 28)) ((w.alloc (D #[H next,.slice a l.length E] 28)).alloc (D #[H s,H ty,H li,H O,yi pr,yj K] 112)):=(Below.refl _ _).alloc (by rw [xy]; omega) _
 have HX:Hid (_∧_∧_):=⟨zb (zb r1 qg (by omega)) b23 (by omega),zb r2 b23 (by omega),t3⟩
 have km:=Y jg
 clear xy xY jg r1 r2 t3 b23 qg
 go_enter Tryz.func112,Tryz.ntmps112
 go_wp2_with fail
 go_step3
 go_wp2_with fail
 generalize (((w.alloc (D #[H next,.slice a l.length E] 28)).alloc (D #[H s,H ty,H li,H O,yi pr,yj K] 112)).alloc (D #[H 0,.slice none 0 0,H 0,H 0,H 0,H 0,H 0,yj ⟨#[]⟩,.slice none 0 0] 157)) = W3 at xW HX km ⊢
 have HX:Hid (W3.rangeAt w.heap.size 0 [H next,.slice a l.length E]∧W3.rangeAt (w.heap.size + 1) 0 [H s,H ty,H li,H O,yi pr,yj K]∧W3.there (w.heap.size + 1 + 1) 0 9):=U HX
 have hw3:W3.heap.size = w.heap.size + 1 + 1 + 1:=U km
 have HR3:=Y (zl (U HR) (U xW) qt)
 refine zh (RG W3 (fun f=>{ tmps:=#[.agg #[H next,.slice a l.length E],.agg #[H s,H ty,H li,H O,yi pr,yj K],yn w 0,I (w.heap.size + 1) 0,I (w.heap.size + 1 + 1) 0,f 7,M,M,f 0,f 1,f 2,f 3,f 4,f 5,f 6,M,M,M,M,M,M,M,M,M,M,M,M,M,M,M,M,M,M,M,M,M,M,M,M,M,M,M,M,M,M,M],defers:=[] }) 8 (DM w.heap.size W3.heap.size W3 next a E l ⟨kk,s,ty,li,O,ii,pr,K⟩)) (by kernel_rfl) ?_ ?_ ?_
 ·exact ⟨fun _=>M,rfl,⟨rfl,rfl,rfl,Nat.le_refl _,fun _ _=>rfl⟩,fun j R=>by rw [yG] at R; split at R <;> simp at R⟩
 ·rintro x hR V ⟨f,rfl,xh,X⟩ hx xM
  have xn:=zS xM hx (acyc _ (by kernel_rfl))
  have k8:x[8]? = some true:=xn 8 (by simp)
  obtain ⟨mb,g7,hmb,-,vd⟩:=X 7 (xn 7 (by simp))
  obtain ⟨a4,c4,hM⟩:=vd k8
  have HM:=Y hM
  have xr:=Y xh
  have y0:V.cell? (J mb 0) = some (H next):=hM.cells 0 _ rfl
  have f0:V.frozen? (J mb 0) = false:=by have:=(hM.there 0 (by omega)).2; rwa [Nat.zero_add] at this
  have hwr:IntKind.i64.wrap (next + 1) = next + 1:=by rw [IntKind.wrap_i64]; omega
  dsimp only
  simp only [g7]
  generalize f 0 = e0,f 1 = e1,f 2 = e2,f 3 = e3,f 4 = e4,f 5 = e5,f 6 = e6
  clear X xn xM hx k8 vd hM xh g7 x f
  go_wp2_with fail
  go_step3
  go_wp2_with fail
  have HMB:=Y hmb
  clear hw3 hmb y0 f0
  go_loopw [] (fun wr=>∃ vq ll lf vt ts,Hid (MatS mb W3.heap.size wr (next + 1) vq ll ⟨next,s,tk pr,lf,li,K⟩ vt ts)∧Hid (MI ⟨kk,s,ty,li,O,ii,pr,K⟩ next hb ll lf ts)∧Hid (KeptBut mb W3.heap.size W3 wr)) (fun wr=>meas mb wr)
  case atStart=>exact ⟨_,l,O,_,[],matS_next (U HM) (next + 1),U HMI,zi (zz (U xr) qt) (bB V 0 _)⟩
  case round =>
   obtain ⟨vq,ll,lf,vt,ts,hM,hI,hK⟩:=hrel
   have y5:wr.cell? (J mb 5) = some (H lf):=(U hM).cells 5 _ rfl
   obtain ⟨av,cv,rfl⟩:∃ a c,vt = .slice a ts.length c:=by
    rcases (U hM).erow.2 with ⟨e,e2⟩ | ⟨g,E,xp,e,_⟩
    ·exact ⟨none,0,by rw [e,e2]⟩
    ·exact ⟨_,_,e⟩
   obtain ⟨aq,cq,rfl⟩:∃ a c,vq = .slice a ll.length c:=by
    rcases (U hM).orow.2 with ⟨e,e2⟩ | ⟨g,E,xp,e,_⟩
    ·exact ⟨none,0,by rw [e,e2]⟩
    ·exact ⟨_,_,e⟩
   by_cases oJ:0 < lf
   ·have kj:=Y (U hI).good
    have HLB:Hid (∀ o' ∈ ll,0 ≤ o'.left∧o'.left ≤ 1000000):=fun o' vu=>by have:=(U kj).left o' vu; omega
    have HRW:=Y (zK (U hM).orow (by have:=(U kj).len; omega))
    generalize uD:othS s = sd
    have HSD:=Y uD
    generalize hq:quOf (decide (sd = 1)) (zw ll sd) = q
    have oi:=frOf_eq q
    generalize hx:hdO q = x at oi
    generalize hfb:hdF q = fb at oi
    have HFR:Hid (frOf (quOf (decide (sd = 1)) (zw ll sd)) = .tuple #[.agg (yu x.id x.side x.ticks x.left x.life x.tag).toArray,.bool fb]):=by show _ = _; rw [hq]; exact oi
    have HFO:Hid (pW ll (othS s) = if fb = true then some x else none):=by
     show _ = _
     rw [pW,uD,hq,← hx,← hfb,hdO,hdF]
     cases q.head? <;> rfl
    clear uD hq oi hx hfb q
    have jg:=U km
    have hc3:∀ j,wr.cell? (J (w.heap.size + 1) j) = W3.cell? (J (w.heap.size + 1) j):=fun j=>yO (a:=(J (w.heap.size + 1) j)) ((U hK).block (w.heap.size + 1) (by omega) (by have:=U HMB; omega))
    have oR:Hid (wr.rangeAt (w.heap.size + 1) 0 [H s,H ty,H li,H O,yi pr,yj K]):=fun j u R=>(hc3 _).trans ((U HX).2.1 j u R)
    have hl3:w.heap.size + 1 < wr.heap.size:=by have:=(U hK).size; omega
    clear hc3 jg
    go_wp2_with fail
    refine zh (RG wr (fun f=>{ tmps:=#[.agg #[H next,.slice a l.length E],.agg #[H s,H ty,H li,H O,yi pr,yj K],yn w 0,I (w.heap.size + 1) 0,I (w.heap.size + 1 + 1) 0,I mb 0,f 11,f 13,e0,e1,e2,e3,e4,e5,e6,I mb 0,I mb 0,H next,H (next + 1),I mb 0,I mb 0,I mb 2,I mb 5,H lf,.bool true,f 8,f 0,f 1,f 2,f 3,f 4,f 5,f 6,f 7,f 9,f 10,u36,u37,u38,u39,u40,u41,u42,u43,u44,M],defers:=[] }) 12 (DQ mb (w.heap.size + 1) wr (.agg #[H (next + 1),.slice aq ll.length cq]) s sd ll x fb)) (by kernel_rfl) ?_ ?_ ?_
    ·exact ⟨fun j=>if j = 0 then u26 else if j = 1 then u27 else if j = 2 then u28 else if j = 3 then u29 else if j = 4 then u30 else if j = 5 then u31 else if j = 6 then u32 else if j = 7 then u33 else if j = 8 then u25 else if j = 9 then u34 else if j = 10 then u35 else if j = 11 then u6 else if j = 13 then u7 else M,rfl,⟨rfl,rfl,rfl,Nat.le_refl _,fun _ _=>rfl⟩,fun j R=>by rw [yG] at R; split at R <;> simp at R⟩
    ·rintro xx hR hD ⟨f,rfl,xh,X⟩ hx xM
     have xn:=zO xM hx (by kernel_rfl)
     have k12:xx[12]? = some true:=xn 12 (by simp)
     have kC:f 13 = .bool fb:=X 13 (xn 13 (by simp))
     obtain ⟨pb,vB,hpb,-,vd⟩:=X 11 (xn 11 (by simp))
     obtain ⟨kt,hplt⟩:=vd k12
     have vw:=Y (bY (U hM) xh)
     have jQ:=Y (zi (U hK) (zz xh (U hM).le))
     have o0:=zb (U oR) xh hl3 0 _ rfl
     have o1:=zb (U oR) xh hl3 1 _ rfl
     have o2:=zb (U oR) xh hl3 2 _ rfl
     have o3:=zb (U oR) xh hl3 3 _ rfl
     have o4:=zb (U oR) xh hl3 4 _ rfl
     have o5:=zb (U oR) xh hl3 5 _ rfl
     have HRG:=Y kt
     obtain ⟨p0,p1,p2,p3,p4,p5⟩:=zC kt
     simp only [Nat.zero_add] at o0 o1 o2 o3 o4 o5 p0 p1 p2 p3 p4 p5
     dsimp only
     simp only [kC,vB]
     generalize f 0 = b0,f 1 = b1,f 2 = b2,f 3 = b3,f 4 = b4,f 5 = b5,f 6 = b6,f 7 = b7,f 8 = b8,f 9 = b9,f 10 = b10
     clear X xn xM hx k12 vd xh vB kC kt hpb f xx y5
     cases fb
     ·have pz:Hid (hb = (ll,lf,ts)):=mi_none (U hI) (by have:=U HFO; simpa using this)
      clear o0 o1 o2 o3 o4 o5 p0 p1 p2 p3 p4 p5
      have xD:hD.there (w.heap.size + 1 + 1) 0 9:=fun j R=>by
       have F:=(U jQ).block (w.heap.size + 1 + 1) (by have:=U km; omega) (by have:=U km; have:=U HMB; omega)
       have:=(U HX).2.2 j R
       rw [yO (a:=(J (w.heap.size + 1 + 1) (0 + j))) F,World.frozen?_of_block (a:=(J (w.heap.size + 1 + 1) (0 + j))) F]
       exact this
      have uj:=Y (match_end (U vw) (U jQ) (U xW) (U km) (U HMB) [H (next + 1),.slice aq ll.length cq,H next,H s,H (tk pr),H lf,H li,yj K,.slice av ts.length cv] rfl xD)
      have c0:=(U vw).cells 0 _ rfl
      have c1:=(U vw).cells 1 _ rfl
      have c2:=(U vw).cells 2 _ rfl
      have c3:=(U vw).cells 3 _ rfl
      have c4:=(U vw).cells 4 _ rfl
      have c5:=(U vw).cells 5 _ rfl
      have c6:=(U vw).cells 6 _ rfl
      have c7:=(U vw).cells 7 _ rfl
      have c8:=(U vw).cells 8 _ rfl
      simp only [Nat.zero_add] at c0 c1 c2 c3 c4 c5 c6 c7 c8
      obtain ⟨v0,z0,q0⟩:=zD xD 0 (by omega)
      obtain ⟨v1,z1,q1⟩:=zD xD 1 (by omega)
      obtain ⟨v2,z2,q2⟩:=zD xD 2 (by omega)
      obtain ⟨v3,z3,q3⟩:=zD xD 3 (by omega)
      obtain ⟨v4,z4,q4⟩:=zD xD 4 (by omega)
      obtain ⟨v5,z5,q5⟩:=zD xD 5 (by omega)
      obtain ⟨v6,z6,q6⟩:=zD xD 6 (by omega)
      obtain ⟨v7,z7,q7⟩:=zD xD 7 (by omega)
      obtain ⟨v8,z8,q8⟩:=zD xD 8 (by omega)
      simp only [Nat.zero_add] at z0 q0 z1 q1 z2 q2 z3 q3 z4 q4 z5 q5 z6 q6 z7 q7 z8 q8
      clear xD
      go_wp2_with fail
      try simp (config:={ zetaDelta:=true }) only [Exit.noGoto_ret]
      change bodyPost _ _ _ _ _ (hD.setCells (w.heap.size + 1 + 1) 0 [H (next + 1),.slice aq ll.length cq,H next,H s,H (tk pr),H lf,H li,yj K,.slice av ts.length cv])
      generalize hD.setCells (w.heap.size + 1 + 1) 0 [H (next + 1),.slice aq ll.length cq,H next,H s,H (tk pr),H lf,H li,yj K,.slice av ts.length cv] = WE at uj ⊢
      obtain ⟨d0,d1,d2,d3,d4,d5,d6,d7,d8⟩:=yC (U uj).1
      try simp only [Exit.inBlock,Exit.then]
      refine bodyPost_ret (by simp [results,Tryz.results112,go_sem,d0,d1,d2,d3,d4,d5,d6,d7,d8]; try rfl) rfl ?_
      rw [U pz]
      exact ⟨_,_,rfl,(U uj).2.1,(U uj).2.2.1,(U uj).2.2.2⟩
     ·have HFO:Hid (pW ll (othS s) = some x):=by show _ = _; have:=U HFO; simpa using this
      go_wp2_with fail
      refine (meets_any ⟨kk,s,ty,li,O,ii,pr,K⟩ x hD).mono ?_
      rintro e w5 ⟨rfl,qc⟩
      have HM5:=Y (bY (U vw) qc)
      have jW:=Y (zi (U jQ) (zz qc (U vw).le))
      obtain ⟨s0,s1,s2,s3,s4,s5⟩:=zC (zb (U HRG) qc hplt)
      simp only [Nat.zero_add] at s0 s1 s2 s3 s4 s5
      clear o0 o1 o2 o3 o4 o5 p0 p1 p2 p3 p4 p5 qc
      cases hme:az ⟨kk,s,ty,li,O,ii,pr,K⟩ x
      ·have pz:Hid (hb = (ll,lf,ts)):=mi_stop (U hI) (U HFO) hme
       clear s0 s1 s2 s3 s4 s5 hme
       have xD:w5.there (w.heap.size + 1 + 1) 0 9:=fun j R=>by
        have F:=(U jW).block (w.heap.size + 1 + 1) (by have:=U km; omega) (by have:=U km; have:=U HMB; omega)
        have:=(U HX).2.2 j R
        rw [yO (a:=(J (w.heap.size + 1 + 1) (0 + j))) F,World.frozen?_of_block (a:=(J (w.heap.size + 1 + 1) (0 + j))) F]
        exact this
       have uj:=Y (match_end (U HM5) (U jW) (U xW) (U km) (U HMB) [H (next + 1),.slice aq ll.length cq,H next,H s,H (tk pr),H lf,H li,yj K,.slice av ts.length cv] rfl xD)
       have c0:=(U HM5).cells 0 _ rfl
       have c1:=(U HM5).cells 1 _ rfl
       have c2:=(U HM5).cells 2 _ rfl
       have c3:=(U HM5).cells 3 _ rfl
       have c4:=(U HM5).cells 4 _ rfl
       have c5:=(U HM5).cells 5 _ rfl
       have c6:=(U HM5).cells 6 _ rfl
       have c7:=(U HM5).cells 7 _ rfl
       have c8:=(U HM5).cells 8 _ rfl
       simp only [Nat.zero_add] at c0 c1 c2 c3 c4 c5 c6 c7 c8
       obtain ⟨v0,z0,q0⟩:=zD xD 0 (by omega)
       obtain ⟨v1,z1,q1⟩:=zD xD 1 (by omega)
       obtain ⟨v2,z2,q2⟩:=zD xD 2 (by omega)
       obtain ⟨v3,z3,q3⟩:=zD xD 3 (by omega)
       obtain ⟨v4,z4,q4⟩:=zD xD 4 (by omega)
       obtain ⟨v5,z5,q5⟩:=zD xD 5 (by omega)
       obtain ⟨v6,z6,q6⟩:=zD xD 6 (by omega)
       obtain ⟨v7,z7,q7⟩:=zD xD 7 (by omega)
       obtain ⟨v8,z8,q8⟩:=zD xD 8 (by omega)
       simp only [Nat.zero_add] at z0 q0 z1 q1 z2 q2 z3 q3 z4 q4 z5 q5 z6 q6 z7 q7 z8 q8
       clear xD
       go_wp2_with fail
       try simp (config:={ zetaDelta:=true }) only [Exit.noGoto_ret]
       change bodyPost _ _ _ _ _ (w5.setCells (w.heap.size + 1 + 1) 0 [H (next + 1),.slice aq ll.length cq,H next,H s,H (tk pr),H lf,H li,yj K,.slice av ts.length cv])
       generalize w5.setCells (w.heap.size + 1 + 1) 0 [H (next + 1),.slice aq ll.length cq,H next,H s,H (tk pr),H lf,H li,yj K,.slice av ts.length cv] = WE at uj ⊢
       obtain ⟨d0,d1,d2,d3,d4,d5,d6,d7,d8⟩:=yC (U uj).1
       try simp only [Exit.inBlock,Exit.then]
       refine bodyPost_ret (by simp [results,Tryz.results112,go_sem,d0,d1,d2,d3,d4,d5,d6,d7,d8]; try rfl) rfl ?_
       rw [U pz]
       exact ⟨_,_,rfl,(U uj).2.1,(U uj).2.2.1,(U uj).2.2.2⟩
      ·obtain ⟨k,je,pl,hI6,hms⟩:=mi_step (U hI) oJ (U HFO) hme
       have hxm:=(U kj).left x (yM pl)
       have uE:Hid (_∧_∧_∧_):=⟨je,pl,hI6,hms⟩
       have hl1:=(U hI).l1
       have oq:=(U kj).len
       have hfew:=(U hI).few
       have uB:Hid (0 ≤ lf∧lf ≤ 1000000∧0 ≤ x.left∧x.left ≤ 1000000∧ll.length ≤ 1000∧ts.length ≤ 1000):=⟨by omega,by omega,by omega,by omega,by omega,by omega⟩
       clear je pl hI6 hms hme hxm hl1 oq hfew
       go_wp2_with fail
       refine (trade_any mb W3.heap.size (next + 1) _ ll ⟨next,s,tk pr,lf,li,K⟩ _ ts x k w5 (U HM5) (U uE).1 (U uE).2.1 (U uB).2.2.2.2.1 (U uB).2.2.2.2.2 (U uB).1 (U uB).2.1 (U uB).2.2.1 (U uB).2.2.2.1 _ rfl).mono ?_
       rintro e w6 ⟨vl,vt',rfl,hM6,hK6⟩
       have HM6:=Y hM6
       have pB:=Y hK6
       clear hM6 hK6 s0 s1 s2 s3 s4 s5
       go_wp2_with fail
       dsimp only [H,I,J]
       go_roundw
       case rel=>exact ⟨vl,_,_,vt',_,U HM6,(U uE).2.2.1,zi (U jW) (U pB)⟩
       case measure =>
        rw [meas_eq (U HM6),meas_eq (U hM)]
        have:=(U uE).2.2.2
        simp only [if_pos oJ]
        exact this
    ·rintro xx hR hD i op ⟨f,rfl,xh,X⟩ L hx Z xu G
     have n12':i ≠ 10→i < 12→¬ xx[12]? = some true:=fun xA xH qq=>by
      have uS:=ye L 12 rfl qq 11 rfl
      have h9:=ye L 12 rfl qq 9 rfl
      have h8:=ye L 9 rfl h9 8 rfl
      have h7:=ye L 8 rfl h8 7 rfl
      have h6:=ye L 7 rfl h7 6 rfl
      have h5:=ye L 6 rfl h6 5 rfl
      have Q:=ye L 5 rfl h5 1 rfl
      have h4:=ye L 5 rfl h5 4 rfl
      have h0:=ye L 1 rfl Q 0 rfl
      have h3:=ye L 4 rfl h4 3 rfl
      have N:=ye L 3 rfl h3 2 rfl
      have ug:∀ j,j ≠ 10→j < 12→xx[j]? = some true:=fun j jn R=>by
       rcases (by omega:j = 0 ∨ j = 1 ∨ j = 2 ∨ j = 3 ∨ j = 4 ∨ j = 5 ∨ j = 6 ∨ j = 7 ∨ j = 8 ∨ j = 9 ∨ j = 11) with rfl | rfl | rfl | rfl | rfl | rfl | rfl | rfl | rfl | rfl | rfl <;> assumption
      rw [ug i xA xH] at xu; cases xu
     clear L y5
     have uv:=Y xh
     have HD:=Y X
     have jw:=Y (zl (U HRW) xh qt)
     have z0:=zb (U hM).cells xh (U hM).lt 0 _ rfl
     have z1:=zb (U hM).cells xh (U hM).lt 1 _ rfl
     have o0:=zb (U oR) xh hl3 0 _ rfl
     rw [Nat.zero_add] at z0 z1 o0
     match i,Z with
    | 0,Z =>
     obtain rfl:=ya Z
     clear G X xh
     rw [if_pos (by rfl)];unfold Oper.wp;go_simp
     exact ⟨upd f 0 (I mb 0),by simp [upd],zd (U uv) (U HD) (by decide) rfl⟩
    | 1,Z =>
     obtain rfl:=ya Z
     have g:f 0 = I mb 0:=X 0 (yd G 0 rfl)
     clear G X xh
     rw [if_pos (by rfl)];unfold Oper.wp;go_simp
     exact ⟨upd f 1 (.agg #[H (next + 1),.slice aq ll.length cq]),by simp [upd,g],zd (U uv) (U HD) (by decide) rfl⟩
    | 2,Z =>
     obtain rfl:=ya Z
     clear G X xh
     rw [if_pos (by rfl)];unfold Oper.wp;go_simp
     exact ⟨upd f 2 (I (w.heap.size + 1) 0),by simp [upd],zd (U uv) (U HD) (by decide) rfl⟩
    | 3,Z =>
     obtain rfl:=ya Z
     have g:f 2 = I (w.heap.size + 1) 0:=X 2 (yd G 2 rfl)
     clear G X xh
     rw [if_pos (by rfl)];unfold Oper.wp;go_simp
     exact ⟨upd f 3 (H s),by simp [upd,g],zd (U uv) (U HD) (by decide) rfl⟩
    | 4,Z =>
     obtain rfl:=ya Z
     have g:f 3 = H s:=X 3 (yd G 3 rfl)
     clear G X xh
     rw [if_pos (by rfl)];unfold Oper.wp;go_simp
     refine (otherSide_any s hD).mono ?_
     rw [U HSD]
     rintro e w4 ⟨rfl,rfl⟩
     exact ⟨upd f 4 (H sd),by simp [upd,g],zd (U uv) (U HD) (by decide) rfl⟩
    | 5,Z =>
     obtain rfl:=ya Z
     have g1:f 1 = .agg #[H (next + 1),.slice aq ll.length cq]:=X 1 (yd G 1 rfl)
     have g4:f 4 = H sd:=X 4 (yd G 4 rfl)
     have pw:=n12' (by omega) (by omega)
     clear G X xh
     rw [if_pos (by rfl)];unfold Oper.wp;go_simp
     by_cases uD:sd = 1
     ·subst uD
      refine (sideOf_buy (next + 1) _ ll hD (U jw) (U kj).len (U HLB)).mono ?_
      rintro e w4 ⟨b,rfl,ht,jo,xz⟩
      exact ⟨upd f 5 (aS b),by simp [upd,g1,g4],ai (U uv) (U HD) xz (by decide) (dq_grow pw xz) (fun _=>.inl ⟨rfl,b,rfl,ht⟩)⟩
     ·refine (sideOf_sell (next + 1) sd uD _ ll hD (U jw) (U kj).len (U HLB)).mono ?_
      rintro e w4 ⟨b,rfl,ht,jo,xz⟩
      exact ⟨upd f 5 (aT b),by simp [upd,g1,g4],ai (U uv) (U HD) xz (by decide) (dq_grow pw xz) (fun _=>.inr ⟨uD,b,rfl,ht⟩)⟩
    | 6,Z =>
     obtain rfl:=ya Z
     have pw:=n12' (by omega) (by omega)
     rcases X 5 (yd G 5 rfl) pw with ⟨uD,b,g5,ht⟩ | ⟨uD,b,g5,ht⟩
     ·subst uD
      have HT:=Y ht
      have hfl:=field0_bm b hD
      clear G X xh ht
      rw [if_pos (by rfl)];unfold Oper.wp;go_simp
      exact ⟨upd f 6 (.func (.func 122) #[I b 0] #[]),by simp [upd,g5],zd (U uv) (U HD) (by decide) (fun _=>.inl ⟨rfl,b,rfl,U HT⟩)⟩
     ·have HT:=Y ht
      have hfl:=field0_sm b hD
      clear G X xh ht
      rw [if_pos (by rfl)];unfold Oper.wp;go_simp
      exact ⟨upd f 6 (.func (.func 126) #[I b 0] #[]),by simp [upd,g5],zd (U uv) (U HD) (by decide) (fun _=>.inr ⟨uD,b,rfl,U HT⟩)⟩
    | 7,Z =>
     obtain rfl:=ya Z
     have pw:=n12' (by omega) (by omega)
     rcases X 6 (yd G 6 rfl) pw with ⟨uD,b,g6,ht⟩ | ⟨uD,b,g6,ht⟩
     ·subst uD
      have HT:=Y ht
      have HE:Hid (frOf (quOf true (zw ll 1)) = .tuple #[.agg (yu x.id x.side x.ticks x.left x.life x.tag).toArray,.bool fb]):=by
       show _ = _
       have:=U HFR
       simpa using this
      clear G X xh ht
      rw [if_pos (by rfl)];unfold Oper.wp;go_simp
      refine (front_b b 1 (zw ll 1) hD (U HT) (yL (List.length_filter_le _ _) (U kj).len)).mono ?_
      rw [U HE]
      rintro e w4 ⟨rfl,xz⟩
      exact ⟨upd f 7 (.tuple #[.agg (yu x.id x.side x.ticks x.left x.life x.tag).toArray,.bool fb]),by simp [upd,g6],ai (U uv) (U HD) xz (by decide) (dq_grow pw xz) rfl⟩
     ·have HT:=Y ht
      have HE:Hid (frOf (quOf false (zw ll sd)) = .tuple #[.agg (yu x.id x.side x.ticks x.left x.life x.tag).toArray,.bool fb]):=by
       have:=U HFR
       rw [decide_eq_false uD] at this
       exact this
      clear G X xh ht
      rw [if_pos (by rfl)];unfold Oper.wp;go_simp
      refine (front_s b sd (zw ll sd) hD (U HT) (yL (List.length_filter_le _ _) (U kj).len)).mono ?_
      rw [U HE]
      rintro e w4 ⟨rfl,xz⟩
      exact ⟨upd f 7 (.tuple #[.agg (yu x.id x.side x.ticks x.left x.life x.tag).toArray,.bool fb]),by simp [upd,g6],ai (U uv) (U HD) xz (by decide) (dq_grow pw xz) rfl⟩
    | 8,Z =>
     obtain rfl:=ya Z
     have g:f 7 = .tuple #[.agg (yu x.id x.side x.ticks x.left x.life x.tag).toArray,.bool fb]:=X 7 (yd G 7 rfl)
     clear G X xh
     rw [if_pos (by rfl)];unfold Oper.wp;go_simp
     exact ⟨upd f 8 (.tuple #[.agg (yu x.id x.side x.ticks x.left x.life x.tag).toArray,.bool fb]),by simp [upd,g],zd (U uv) (U HD) (by decide) rfl⟩
    | 9,Z =>
     obtain rfl:=ya Z
     have g:f 8 = .tuple #[.agg (yu x.id x.side x.ticks x.left x.life x.tag).toArray,.bool fb]:=X 8 (yd G 8 rfl)
     clear G X xh
     rw [if_pos (by rfl)];unfold Oper.wp;go_simp
     exact ⟨upd f 9 (.agg (yu x.id x.side x.ticks x.left x.life x.tag).toArray),by simp [upd,g],zd (U uv) (U HD) (by decide) rfl⟩
    | 10,Z =>
     obtain rfl:=ya Z
     have g:f 8 = .tuple #[.agg (yu x.id x.side x.ticks x.left x.life x.tag).toArray,.bool fb]:=X 8 (yd G 8 rfl)
     clear G X xh
     rw [if_pos (by rfl)];unfold Oper.wp;go_simp
     exact ⟨upd f 10 (.bool fb),by simp [upd,g],zd (U uv) (U HD) (by decide) rfl⟩
    | 11,Z =>
     obtain rfl:=ya Z
     have pw:=n12' (by omega) (by omega)
     clear G X xh
     rw [if_pos (by rfl)];unfold Oper.wp;go_simp
     have xz:=dm hD (D (yu 0 0 0 0 0 ⟨#[]⟩).toArray 49)
     exact ⟨upd f 11 (yn hD 0),by simp [upd],ai (U uv) (U HD) xz (by decide) (dq_grow pw xz) ⟨hD.heap.size,rfl,(U uv).size,fun _=>⟨zt hD (yu 0 0 0 0 0 ⟨#[]⟩) _,by rw [zf]; omega⟩,fun h=>absurd h pw⟩⟩
    | 12,Z =>
     obtain rfl:=ya Z
     have pw:¬ xx[12]? = some true:=by rw [xu]; simp
     have g9:f 9 = .agg (yu x.id x.side x.ticks x.left x.life x.tag).toArray:=X 9 (yd G 9 rfl)
     obtain ⟨pb,vB,hpb,xD,-⟩:=X 11 (yd G 11 rfl)
     obtain ⟨xD,hplt⟩:=xD pw
     have jx:=Y xD
     obtain ⟨u0,y0,q0⟩:=zD xD 0 (by omega)
     obtain ⟨u1,y1,q1⟩:=zD xD 1 (by omega)
     obtain ⟨u2,y2,q2⟩:=zD xD 2 (by omega)
     obtain ⟨u3,y3,q3⟩:=zD xD 3 (by omega)
     obtain ⟨u4,y4,q4⟩:=zD xD 4 (by omega)
     obtain ⟨u5,y5,q5⟩:=zD xD 5 (by omega)
     simp only [Nat.zero_add] at y0 q0 y1 q1 y2 q2 y3 q3 y4 q4 y5 q5
     clear G X xh xD
     rw [if_pos (by rfl)];unfold Oper.wp;go_simp
     refine ⟨upd f 12 M,by simp [upd,g9,vB],rgx_last (zm pb hpb (yu x.id x.side x.ticks x.left x.life x.tag) 0 hD (U uv)) (U HD) xu (fun j R hxj h=>dq_last j R h (fun hj11=>?_)) trivial⟩
     subst hj11
     refine ⟨pb,vB,hpb,fun h=>absurd trivial h,fun _=>⟨?_,?_⟩⟩
     ·exact yV hD pb 0 (yu x.id x.side x.ticks x.left x.life x.tag) (fun j R=>U jx j R)
     ·show pb < (hD.setCells pb 0 (yu x.id x.side x.ticks x.left x.life x.tag)).heap.size
      simp only [World.setCells,World.setCell,Array.size_modify]; exact hplt
    | 13,Z =>
     obtain rfl:=ya Z
     have g:f 10 = .bool fb:=X 10 (yd G 10 rfl)
     clear G X xh
     rw [if_pos (by rfl)];unfold Oper.wp;go_simp
     exact ⟨upd f 13 (.bool fb),by simp [upd,g],zd (U uv) (U HD) (by decide) rfl⟩
    | i + 14,Z=>simp at Z
   ·have pz:Hid (hb = (ll,lf,ts)):=mi_done (U hI) oJ
    have xD:wr.there (w.heap.size + 1 + 1) 0 9:=fun j R=>by
     have F:=(U hK).block (w.heap.size + 1 + 1) (by have:=U km; omega) (by have:=U km; have:=U HMB; omega)
     have:=(U HX).2.2 j R
     rw [yO (a:=(J (w.heap.size + 1 + 1) (0 + j))) F,World.frozen?_of_block (a:=(J (w.heap.size + 1 + 1) (0 + j))) F]
     exact this
    have uj:=Y (match_end (U hM) (U hK) (U xW) (U km) (U HMB) [H (next + 1),.slice aq ll.length cq,H next,H s,H (tk pr),H lf,H li,yj K,.slice av ts.length cv] rfl xD)
    have c0:=(U hM).cells 0 _ rfl
    have c1:=(U hM).cells 1 _ rfl
    have c2:=(U hM).cells 2 _ rfl
    have c3:=(U hM).cells 3 _ rfl
    have c4:=(U hM).cells 4 _ rfl
    have c5:=(U hM).cells 5 _ rfl
    have c6:=(U hM).cells 6 _ rfl
    have c7:=(U hM).cells 7 _ rfl
    have c8:=(U hM).cells 8 _ rfl
    simp only [Nat.zero_add] at c0 c1 c2 c3 c4 c5 c6 c7 c8
    obtain ⟨v0,z0,q0⟩:=zD xD 0 (by omega)
    obtain ⟨v1,z1,q1⟩:=zD xD 1 (by omega)
    obtain ⟨v2,z2,q2⟩:=zD xD 2 (by omega)
    obtain ⟨v3,z3,q3⟩:=zD xD 3 (by omega)
    obtain ⟨v4,z4,q4⟩:=zD xD 4 (by omega)
    obtain ⟨v5,z5,q5⟩:=zD xD 5 (by omega)
    obtain ⟨v6,z6,q6⟩:=zD xD 6 (by omega)
    obtain ⟨v7,z7,q7⟩:=zD xD 7 (by omega)
    obtain ⟨v8,z8,q8⟩:=zD xD 8 (by omega)
    simp only [Nat.zero_add] at z0 q0 z1 q1 z2 q2 z3 q3 z4 q4 z5 q5 z6 q6 z7 q7 z8 q8
    clear xD
    go_wp2_with fail
    try simp (config:={ zetaDelta:=true }) only [Exit.noGoto_ret]
    change bodyPost _ _ _ _ _ (wr.setCells (w.heap.size + 1 + 1) 0 [H (next + 1),.slice aq ll.length cq,H next,H s,H (tk pr),H lf,H li,yj K,.slice av ts.length cv])
    generalize wr.setCells (w.heap.size + 1 + 1) 0 [H (next + 1),.slice aq ll.length cq,H next,H s,H (tk pr),H lf,H li,yj K,.slice av ts.length cv] = WE at uj ⊢
    obtain ⟨d0,d1,d2,d3,d4,d5,d6,d7,d8⟩:=yC (U uj).1
    try simp only [Exit.inBlock,Exit.then]
    refine bodyPost_ret (by simp [results,Tryz.results112,go_sem,d0,d1,d2,d3,d4,d5,d6,d7,d8]; try rfl) rfl ?_
    rw [U pz]
    exact ⟨_,_,rfl,(U uj).2.1,(U uj).2.2.1,(U uj).2.2.2⟩
 ·rintro x hR V i op ⟨f,rfl,xh,X⟩ L hx Z xu G
  have n8':i < 8→¬ x[8]? = some true:=fun xH h8=>by
   have h7:=ye L 8 rfl h8 7 rfl
   have h6:=ye L 8 rfl h8 6 rfl
   have h5:=ye L 6 rfl h6 5 rfl
   have Q:=ye L 6 rfl h6 1 rfl
   have h0:=ye L 1 rfl Q 0 rfl
   have N:=ye L 5 rfl h5 2 rfl
   have h4:=ye L 5 rfl h5 4 rfl
   have h3:=ye L 4 rfl h4 3 rfl
   have ug:∀ j,j < 8→x[j]? = some true:=fun j R=>by
    rcases (by omega:j = 0 ∨ j = 1 ∨ j = 2 ∨ j = 3 ∨ j = 4 ∨ j = 5 ∨ j = 6 ∨ j = 7) with rfl | rfl | rfl | rfl | rfl | rfl | rfl | rfl <;> assumption
   rw [ug i xH] at xu; cases xu
  clear L
  have xr:=Y xh
  have HD:=Y X
  have qX:=Y (zl (U HR3) xh qt)
  have z0:=zb (U HX).1 xh (by omega) 0 _ rfl
  have z1:=zb (U HX).1 xh (by omega) 1 _ rfl
  have o0:=zb (U HX).2.1 xh (by omega) 0 _ rfl
  have o1:=zb (U HX).2.1 xh (by omega) 1 _ rfl
  have o2:=zb (U HX).2.1 xh (by omega) 2 _ rfl
  have o3:=zb (U HX).2.1 xh (by omega) 3 _ rfl
  have o4:=zb (U HX).2.1 xh (by omega) 4 _ rfl
  have o5:=zb (U HX).2.1 xh (by omega) 5 _ rfl
  rw [Nat.zero_add] at z0 z1 o0 o1 o2 o3 o4 o5
  clear hw3
  match i,Z with
  | 0,Z =>
   obtain rfl:=ya Z
   clear G X xh
   rw [if_pos (by rfl)];unfold Oper.wp;go_simp
   exact ⟨upd f 0 (.agg #[H next,.slice a l.length E]),by simp [upd],zd (U xr) (U HD) (by decide) rfl⟩
  | 1,Z =>
   obtain rfl:=ya Z
   have g:f 0 = .agg #[H next,.slice a l.length E]:=X 0 (yd G 0 rfl)
   have n8:=n8' (by omega)
   clear G X xh
   rw [if_pos (by rfl)];unfold Oper.wp;go_simp
   refine (copyBook_any next _ l V (U qX) hsl (by omega)).mono ?_
   rintro e w4 ⟨v4,rfl,pN,xz⟩
   obtain ⟨a4,c4,rfl⟩:=rd_lenF (zK pN (by omega))
   exact ⟨upd f 1 (.agg #[H next,.slice a4 l.length c4]),by simp [upd,g],ai (U xr) (U HD) xz (by decide) (dm_grow n8 xz) ⟨a4,c4,rfl,fun _=>aV pN (U xr).size⟩⟩
  | 2,Z =>
   obtain rfl:=ya Z
   clear G X xh
   rw [if_pos (by rfl)];unfold Oper.wp;go_simp
   exact ⟨upd f 2 (.agg #[H s,H ty,H li,H O,yi pr,yj K]),by simp [upd],zd (U xr) (U HD) (by decide) rfl⟩
  | 3,Z =>
   obtain rfl:=ya Z
   clear G X xh
   rw [if_pos (by rfl)];unfold Oper.wp;go_simp
   exact ⟨upd f 3 (yn w 0),by simp [upd],zd (U xr) (U HD) (by decide) rfl⟩
  | 4,Z =>
   obtain rfl:=ya Z
   have g:f 3 = yn w 0:=X 3 (yd G 3 rfl)
   clear G X xh
   rw [if_pos (by rfl)];unfold Oper.wp;go_simp
   exact ⟨upd f 4 (H next),by simp [upd,g],zd (U xr) (U HD) (by decide) rfl⟩
  | 5,Z =>
   obtain rfl:=ya Z
   have g2:f 2 = .agg #[H s,H ty,H li,H O,yi pr,yj K]:=X 2 (yd G 2 rfl)
   have g4:f 4 = H next:=X 4 (yd G 4 rfl)
   have n8:=n8' (by omega)
   clear G X xh
   rw [if_pos (by rfl)];unfold Oper.wp;go_simp
   refine (order_any ⟨kk,s,ty,li,O,ii,pr,K⟩ next V).mono ?_
   rintro e w4 ⟨rfl,xz⟩
   exact ⟨upd f 5 (.agg (yu next s (tk pr) O li K).toArray),by simp [upd,g2,g4],ai (U xr) (U HD) xz (by decide) (dm_grow n8 xz) rfl⟩
  | 6,Z =>
   obtain rfl:=ya Z
   obtain ⟨a4,c4,g1,vR⟩:=X 1 (yd G 1 rfl)
   have g5:f 5 = .agg (yu next s (tk pr) O li K).toArray:=X 5 (yd G 5 rfl)
   have vh:=Y vR
   clear G X xh vR
   rw [if_pos (by rfl)];unfold Oper.wp;go_simp
   exact ⟨upd f 6 (.agg #[H next,.slice a4 l.length c4,H next,H s,H (tk pr),H O,H li,yj K,.slice none 0 0]),by simp [upd,g1,g5],zd (U xr) (U HD) (by decide) ⟨a4,c4,rfl,U vh⟩⟩
  | 7,Z =>
   obtain rfl:=ya Z
   have n8:=n8' (by omega)
   clear G X xh
   rw [if_pos (by rfl)];unfold Oper.wp;go_simp
   have xz:=dm V (D #[H 0,.slice none 0 0,H 0,H 0,H 0,H 0,H 0,yj ⟨#[]⟩,.slice none 0 0] 157)
   exact ⟨upd f 7 (yn V 0),by simp [upd],ai (U xr) (U HD) xz (by decide) (dm_grow n8 xz) ⟨V.heap.size,rfl,(U xr).size,fun _=>⟨zt V [H 0,.slice none 0 0,H 0,H 0,H 0,H 0,H 0,yj ⟨#[]⟩,.slice none 0 0] _,_,heap_alloc_new V _⟩,fun h=>absurd h n8⟩⟩
  | 8,Z =>
   obtain rfl:=ya Z
   have n8:¬ x[8]? = some true:=by rw [xu]; simp
   obtain ⟨a4,c4,g6,ho6⟩:=X 6 (yd G 6 rfl)
   obtain ⟨mb,g7,hmb,xD,-⟩:=X 7 (yd G 7 rfl)
   obtain ⟨xD,qT⟩:=xD n8
   have HO6:=Y (ho6 n8)
   have jx:=Y xD
   have uv:=Y qT
   obtain ⟨u0,y0,q0⟩:=zD xD 0 (by omega)
   obtain ⟨u1,y1,q1⟩:=zD xD 1 (by omega)
   obtain ⟨u2,y2,q2⟩:=zD xD 2 (by omega)
   obtain ⟨u3,y3,q3⟩:=zD xD 3 (by omega)
   obtain ⟨u4,y4,q4⟩:=zD xD 4 (by omega)
   obtain ⟨u5,y5,q5⟩:=zD xD 5 (by omega)
   obtain ⟨u6,y6,q6⟩:=zD xD 6 (by omega)
   obtain ⟨u7,y7,q7⟩:=zD xD 7 (by omega)
   obtain ⟨u8,y8,q8⟩:=zD xD 8 (by omega)
   simp only [Nat.zero_add] at y0 q0 y1 q1 y2 q2 y3 q3 y4 q4 y5 q5 y6 q6 y7 q7 y8 q8
   clear G X xh ho6 xD qT
   rw [if_pos (by rfl)];unfold Oper.wp;go_simp
   refine ⟨upd f 8 M,by simp [upd,g6,g7],rgx_last (zm mb hmb [H next,.slice a4 l.length c4,H next,H s,H (tk pr),H O,H li,yj K,.slice none 0 0] 0 V (U xr)) (U HD) xu (fun j R hxj h=>dm_last j R h (fun hj7=>?_)) trivial⟩
   subst hj7
   refine ⟨mb,g7,hmb,fun h=>absurd trivial h,fun _=>⟨a4,c4,?_⟩⟩
   exact matS_made (c:=⟨kk,s,ty,li,O,ii,pr,K⟩) (U jx) (U uv) (U HO6) (by have:=(U xr).size; omega)
  | i + 9,Z=>simp at Z
end Go.Proofs.YtbakanofkghmiaaGreat
