/-
  What comes of a new order, by the program: proved by walking the function.
-/
import Derived.Test.YtbakanofkghmiaaGreatPj18
import Derived.WalkMore
set_option linter.unusedVariables false
set_option maxHeartbeats 6400000
set_option maxRecDepth 100000
namespace Go.Proofs.YtbakanofkghmiaaGreat
open Go.RowKit
theorem match_any (next:Int) (vb:Value) (l:List Od) (c:Cm) (w:World) (hr:RdR Od.vs 6 w vb l) (hs:SlOk vb) (hg:GoodL l) (h0:0 ≤ next) (z:next ≤ 1000000) (je:0 ≤ c.q) (qy:c.q ≤ 1000000) :
  Calls Tryz.prog 112 #[.agg #[H next,vb],noV c] w fun e w'=>∃ vq vt,e = yk (.agg #[H (next + 1),vq,H next,H c.s,H (tk c.p),H (matL c next 21 l c.q []).2.1,H c.l,yi c.g,vt])∧ORow w' w.heap.size vq (matL c next 21 l c.q []).1∧ERow w' w.heap.size vt (matL c next 21 l c.q []).2.2∧yl w w':=by
 have HR:=Q hr
 have HG:=Q hg
 have hsl:=hs
 have HMI:=Q (mi_start (c:=c) (id:=next) hg je qy)
 have hn:=hg.len
 obtain ⟨a,F,rfl,xD,hc⟩:=hr
 generalize hF:matL c next 21 l c.q [] = xh at HMI ⊢
 clear hF hc hg hs
 obtain ⟨kk,s,ty,li,X,ii,pr,O⟩:=c
 unfold noV
 simp only at *
 have xz:=ze w (E #[H next,.slice a l.length F] 28)
 have xY:((w.alloc (E #[H next,.slice a l.length F] 28)).alloc (E #[H s,H ty,H li,H X,yh pr,yi O] 112)).heap.size = w.heap.size + 1 + 1:=by rw [ze,xz]
 have kp:(((w.alloc (E #[H next,.slice a l.length F] 28)).alloc (E #[H s,H ty,H li,H X,yh pr,yi O] 112)).alloc (E #[H 0,.slice none 0 0,H 0,H 0,H 0,H 0,H 0,yi ⟨#[]⟩,.slice none 0 0] 157)).heap.size = w.heap.size + 1 + 1 + 1:=by rw [ze,xY]
 have r1:=zg w [H next,.slice a l.length F] 28
 have r2:=zg (w.alloc (E #[H next,.slice a l.length F] 28)) [H s,H ty,H li,H X,yh pr,yi O] 112
 rw [xz] at r2
 have t3:=zH ((w.alloc (E #[H next,.slice a l.length F] 28)).alloc (E #[H s,H ty,H li,H X,yh pr,yi O] 112)) [H 0,.slice none 0 0,H 0,H 0,H 0,H 0,H 0,yi ⟨#[]⟩,.slice none 0 0] 157
 rw [xY] at t3
 have xM:Hid (yl w (((w.alloc (E #[H next,.slice a l.length F] 28)).alloc (E #[H s,H ty,H li,H X,yh pr,yi O] 112)).alloc (E #[H 0,.slice none 0 0,H 0,H 0,H 0,H 0,H 0,yi ⟨#[]⟩,.slice none 0 0] 157))):=((eD _ _).alloc (by rw [xz]; omega) _).alloc (by rw [xY]; omega) _
 have b23:Below (w.heap.size + 1 + 1) ((w.alloc (E #[H next,.slice a l.length F] 28)).alloc (E #[H s,H ty,H li,H X,yh pr,yi O] 112)) (((w.alloc (E #[H next,.slice a l.length F] 28)).alloc (E #[H s,H ty,H li,H X,yh pr,yi O] 112)).alloc (E #[H 0,.slice none 0 0,H 0,H 0,H 0,H 0,H 0,yi ⟨#[]⟩,.slice none 0 0] 157)):=(Below.refl _ _).alloc (by rw [xY]; omega) _
 have qg:Below (w.heap.size + 1) (w.alloc (E #[H next,.slice a l.length F] 28)) ((w.alloc (E #[H next,.slice a l.length F] 28)).alloc (E #[H s,H ty,H li,H X,yh pr,yi O] 112)):=(Below.refl _ _).alloc (by rw [xz]; omega) _
 have HX:Hid (_∧_∧_):=⟨zb (zb r1 qg (by omega)) b23 (by omega),zb r2 b23 (by omega),t3⟩
 have kh:=Q kp
 clear xz xY kp r1 r2 t3 b23 qg
 go_enter Tryz.func112,Tryz.ntmps112
 go_wp2_with fail
 go_step3
 go_wp2_with fail
 generalize (((w.alloc (E #[H next,.slice a l.length F] 28)).alloc (E #[H s,H ty,H li,H X,yh pr,yi O] 112)).alloc (E #[H 0,.slice none 0 0,H 0,H 0,H 0,H 0,H 0,yi ⟨#[]⟩,.slice none 0 0] 157)) = W3 at xM HX kh ⊢
 have HX:Hid (W3.rangeAt w.heap.size 0 [H next,.slice a l.length F]∧W3.rangeAt (w.heap.size + 1) 0 [H s,H ty,H li,H X,yh pr,yi O]∧W3.there (w.heap.size + 1 + 1) 0 9):=M HX
 have hw3:W3.heap.size = w.heap.size + 1 + 1 + 1:=M kh
 have oI:=Q (zh (M HR) (M xM) tg)
 refine zi (RG W3 (fun f=>{ tmps:=#[.agg #[H next,.slice a l.length F],.agg #[H s,H ty,H li,H X,yh pr,yi O],ym w 0,I (w.heap.size + 1) 0,I (w.heap.size + 1 + 1) 0,f 7,Z,Z,f 0,f 1,f 2,f 3,f 4,f 5,f 6,Z,Z,Z,Z,Z,Z,Z,Z,Z,Z,Z,Z,Z,Z,Z,Z,Z,Z,Z,Z,Z,Z,Z,Z,Z,Z,Z,Z,Z,Z,Z],defers:=[] }) 8 (DM w.heap.size W3.heap.size W3 next a F l ⟨kk,s,ty,li,X,ii,pr,O⟩)) (by kernel_rfl) ?_ ?_ ?_
 ·exact ⟨fun _=>Z,rfl,⟨rfl,rfl,rfl,Nat.le_refl _,fun _ _=>rfl⟩,fun j L=>by rw [yF] at L; split at L <;> simp at L⟩
 ·rintro x hR V ⟨f,rfl,xe,U⟩ hx xK
  have xm:=aK xK hx (acyc _ (by kernel_rfl))
  have k8:x[8]? = some true:=xm 8 (by simp)
  obtain ⟨N,g7,hmb,-,uX⟩:=U 7 (xm 7 (by simp))
  obtain ⟨a4,c4,hM⟩:=uX k8
  have HM:=Q hM
  have xo:=Q xe
  have y0:V.cell? (J N 0) = some (H next):=hM.cells 0 _ rfl
  have f0:V.frozen? (J N 0) = false:=by have:=(hM.there 0 (by omega)).2; rwa [Nat.zero_add] at this
  have hwr:IntKind.i64.wrap (next + 1) = next + 1:=by rw [IntKind.wrap_i64]; omega
  dsimp only
  simp only [g7]
  generalize f 0 = e0,f 1 = e1,f 2 = e2,f 3 = e3,f 4 = e4,f 5 = e5,f 6 = e6
  clear U xm xK hx k8 uX hM xe g7 x f
  go_wp2_with fail
  go_step3
  go_wp2_with fail
  have HMB:=Q hmb
  clear hw3 hmb y0 f0
  go_loopw [] (fun wr=>∃ vq ll lf vt ts,Hid (MatS N W3.heap.size wr (next + 1) vq ll ⟨next,s,tk pr,lf,li,O⟩ vt ts)∧Hid (MI ⟨kk,s,ty,li,X,ii,pr,O⟩ next xh ll lf ts)∧Hid (KeptBut N W3.heap.size W3 wr)) (fun wr=>meas N wr)
  case atStart=>exact ⟨_,l,X,_,[],matS_next (M HM) (next + 1),M HMI,zk (zC (M xo) tg) (cO V 0 _)⟩
  case round =>
   obtain ⟨vq,ll,lf,vt,ts,hM,hI,hK⟩:=hrel
   have y5:wr.cell? (J N 5) = some (H lf):=(M hM).cells 5 _ rfl
   obtain ⟨av,cv,rfl⟩:∃ a c,vt = .slice a ts.length c:=by
    rcases (M hM).erow.2 with ⟨e,e2⟩ | ⟨g,F,xp,e,_⟩
    ·exact ⟨none,0,by rw [e,e2]⟩
    ·exact ⟨_,_,e⟩
   obtain ⟨aq,cq,rfl⟩:∃ a c,vq = .slice a ll.length c:=by
    rcases (M hM).orow.2 with ⟨e,e2⟩ | ⟨g,F,xp,e,_⟩
    ·exact ⟨none,0,by rw [e,e2]⟩
    ·exact ⟨_,_,e⟩
   by_cases oU:0 < lf
   ·have HGL:=Q (M hI).good
    have HLB:Hid (∀ o' ∈ ll,0 ≤ o'.left∧o'.left ≤ 1000000):=fun o' vk=>by have:=(M HGL).left o' vk; omega
    have HRW:=Q (zT (M hM).orow (by have:=(M HGL).len; omega))
    generalize uu:othS s = sd
    have HSD:=Q uu
    generalize hq:quOf (decide (sd = 1)) (zn ll sd) = q
    have om:=frOf_eq q
    generalize hx:hdO q = x at om
    generalize ah:hdF q = fb at om
    have HFR:Hid (frOf (quOf (decide (sd = 1)) (zn ll sd)) = .tuple #[.agg (yt x.id x.side x.ticks x.left x.life x.tag).toArray,.bool fb]):=by show _ = _; rw [hq]; exact om
    have HFO:Hid (aD ll (othS s) = if fb = true then some x else none):=by
     show _ = _
     rw [aD,uu,hq,← hx,← ah,hdO,hdF]
     cases q.head? <;> rfl
    clear uu hq om hx ah q
    have kp:=M kh
    have hc3:∀ j,wr.cell? (J (w.heap.size + 1) j) = W3.cell? (J (w.heap.size + 1) j):=fun j=>yN (a:=(J (w.heap.size + 1) j)) ((M hK).block (w.heap.size + 1) (by omega) (by have:=M HMB; omega))
    have pe:Hid (wr.rangeAt (w.heap.size + 1) 0 [H s,H ty,H li,H X,yh pr,yi O]):=fun j u L=>(hc3 _).trans ((M HX).2.1 j u L)
    have hl3:w.heap.size + 1 < wr.heap.size:=by have:=(M hK).size; omega
    clear hc3 kp
    go_wp2_with fail
    refine zi (RG wr (fun f=>{ tmps:=#[.agg #[H next,.slice a l.length F],.agg #[H s,H ty,H li,H X,yh pr,yi O],ym w 0,I (w.heap.size + 1) 0,I (w.heap.size + 1 + 1) 0,I N 0,f 11,f 13,e0,e1,e2,e3,e4,e5,e6,I N 0,I N 0,H next,H (next + 1),I N 0,I N 0,I N 2,I N 5,H lf,.bool true,f 8,f 0,f 1,f 2,f 3,f 4,f 5,f 6,f 7,f 9,f 10,u36,u37,u38,u39,u40,u41,u42,u43,u44,Z],defers:=[] }) 12 (DQ N (w.heap.size + 1) wr (.agg #[H (next + 1),.slice aq ll.length cq]) s sd ll x fb)) (by kernel_rfl) ?_ ?_ ?_
    ·exact ⟨fun j=>if j = 0 then u26 else if j = 1 then u27 else if j = 2 then u28 else if j = 3 then u29 else if j = 4 then u30 else if j = 5 then u31 else if j = 6 then u32 else if j = 7 then u33 else if j = 8 then u25 else if j = 9 then u34 else if j = 10 then u35 else if j = 11 then u6 else if j = 13 then u7 else Z,rfl,⟨rfl,rfl,rfl,Nat.le_refl _,fun _ _=>rfl⟩,fun j L=>by rw [yF] at L; split at L <;> simp at L⟩
    ·rintro xx hR qt ⟨f,rfl,xe,U⟩ hx xK
     have xm:=zL xK hx (by kernel_rfl)
     have k12:xx[12]? = some true:=xm 12 (by simp)
     have kE:f 13 = .bool fb:=U 13 (xm 13 (by simp))
     obtain ⟨pb,vr,hpb,-,uX⟩:=U 11 (xm 11 (by simp))
     obtain ⟨pG,hplt⟩:=uX k12
     have vv:=Q (dr (M hM) xe)
     have kw:=Q (zk (M hK) (zC xe (M hM).le))
     have o0:=zb (M pe) xe hl3 0 _ rfl
     have o1:=zb (M pe) xe hl3 1 _ rfl
     have o2:=zb (M pe) xe hl3 2 _ rfl
     have o3:=zb (M pe) xe hl3 3 _ rfl
     have o4:=zb (M pe) xe hl3 4 _ rfl
     have o5:=zb (M pe) xe hl3 5 _ rfl
     have HRG:=Q pG
     obtain ⟨p0,p1,p2,p3,p4,p5⟩:=zx pG
     simp only [Nat.zero_add] at o0 o1 o2 o3 o4 o5 p0 p1 p2 p3 p4 p5
     dsimp only
     simp only [kE,vr]
     generalize f 0 = b0,f 1 = b1,f 2 = b2,f 3 = b3,f 4 = b4,f 5 = b5,f 6 = b6,f 7 = b7,f 8 = b8,f 9 = b9,f 10 = b10
     clear U xm xK hx k12 uX xe vr kE pG hpb f xx y5
     cases fb
     ·have pO:Hid (xh = (ll,lf,ts)):=mi_none (M hI) (by have:=M HFO; simpa using this)
      clear o0 o1 o2 o3 o4 o5 p0 p1 p2 p3 p4 p5
      have xG:qt.there (w.heap.size + 1 + 1) 0 9:=fun j L=>by
       have hb:=(M kw).block (w.heap.size + 1 + 1) (by have:=M kh; omega) (by have:=M kh; have:=M HMB; omega)
       have:=(M HX).2.2 j L
       rw [yN (a:=(J (w.heap.size + 1 + 1) (0 + j))) hb,World.frozen?_of_block (a:=(J (w.heap.size + 1 + 1) (0 + j))) hb]
       exact this
      have ud:=Q (match_end (M vv) (M kw) (M xM) (M kh) (M HMB) [H (next + 1),.slice aq ll.length cq,H next,H s,H (tk pr),H lf,H li,yi O,.slice av ts.length cv] rfl xG)
      have c0:=(M vv).cells 0 _ rfl
      have c1:=(M vv).cells 1 _ rfl
      have c2:=(M vv).cells 2 _ rfl
      have c3:=(M vv).cells 3 _ rfl
      have c4:=(M vv).cells 4 _ rfl
      have c5:=(M vv).cells 5 _ rfl
      have c6:=(M vv).cells 6 _ rfl
      have c7:=(M vv).cells 7 _ rfl
      have c8:=(M vv).cells 8 _ rfl
      simp only [Nat.zero_add] at c0 c1 c2 c3 c4 c5 c6 c7 c8
      obtain ⟨v0,z0,q0⟩:=zF xG 0 (by omega)
      obtain ⟨v1,z1,q1⟩:=zF xG 1 (by omega)
      obtain ⟨v2,z2,q2⟩:=zF xG 2 (by omega)
      obtain ⟨v3,z3,q3⟩:=zF xG 3 (by omega)
      obtain ⟨v4,z4,q4⟩:=zF xG 4 (by omega)
      obtain ⟨v5,z5,q5⟩:=zF xG 5 (by omega)
      obtain ⟨v6,z6,q6⟩:=zF xG 6 (by omega)
      obtain ⟨v7,z7,q7⟩:=zF xG 7 (by omega)
      obtain ⟨v8,z8,q8⟩:=zF xG 8 (by omega)
      simp only [Nat.zero_add] at z0 q0 z1 q1 z2 q2 z3 q3 z4 q4 z5 q5 z6 q6 z7 q7 z8 q8
      clear xG
      go_wp2_with fail
      try simp (config:={ zetaDelta:=true }) only [Exit.noGoto_ret]
      change bodyPost _ _ _ _ _ (qt.setCells (w.heap.size + 1 + 1) 0 [H (next + 1),.slice aq ll.length cq,H next,H s,H (tk pr),H lf,H li,yi O,.slice av ts.length cv])
      generalize qt.setCells (w.heap.size + 1 + 1) 0 [H (next + 1),.slice aq ll.length cq,H next,H s,H (tk pr),H lf,H li,yi O,.slice av ts.length cv] = WE at ud ⊢
      obtain ⟨d0,d1,d2,d3,d4,d5,d6,d7,d8⟩:=yB (M ud).1
      try simp only [Exit.inBlock,Exit.then]
      refine bodyPost_ret (by simp [results,Tryz.results112,go_sem,d0,d1,d2,d3,d4,d5,d6,d7,d8]; try rfl) rfl ?_
      rw [M pO]
      exact ⟨_,_,rfl,(M ud).2.1,(M ud).2.2.1,(M ud).2.2.2⟩
     ·have HFO:Hid (aD ll (othS s) = some x):=by show _ = _; have:=M HFO; simpa using this
      go_wp2_with fail
      refine (meets_any ⟨kk,s,ty,li,X,ii,pr,O⟩ x qt).mono ?_
      rintro e w5 ⟨rfl,uN⟩
      have HM5:=Q (dr (M vv) uN)
      have ky:=Q (zk (M kw) (zC uN (M vv).le))
      obtain ⟨s0,s1,s2,s3,s4,s5⟩:=zx (zb (M HRG) uN hplt)
      simp only [Nat.zero_add] at s0 s1 s2 s3 s4 s5
      clear o0 o1 o2 o3 o4 o5 p0 p1 p2 p3 p4 p5 uN
      cases hme:aI ⟨kk,s,ty,li,X,ii,pr,O⟩ x
      ·have pO:Hid (xh = (ll,lf,ts)):=mi_stop (M hI) (M HFO) hme
       clear s0 s1 s2 s3 s4 s5 hme
       have xG:w5.there (w.heap.size + 1 + 1) 0 9:=fun j L=>by
        have hb:=(M ky).block (w.heap.size + 1 + 1) (by have:=M kh; omega) (by have:=M kh; have:=M HMB; omega)
        have:=(M HX).2.2 j L
        rw [yN (a:=(J (w.heap.size + 1 + 1) (0 + j))) hb,World.frozen?_of_block (a:=(J (w.heap.size + 1 + 1) (0 + j))) hb]
        exact this
       have ud:=Q (match_end (M HM5) (M ky) (M xM) (M kh) (M HMB) [H (next + 1),.slice aq ll.length cq,H next,H s,H (tk pr),H lf,H li,yi O,.slice av ts.length cv] rfl xG)
       have c0:=(M HM5).cells 0 _ rfl
       have c1:=(M HM5).cells 1 _ rfl
       have c2:=(M HM5).cells 2 _ rfl
       have c3:=(M HM5).cells 3 _ rfl
       have c4:=(M HM5).cells 4 _ rfl
       have c5:=(M HM5).cells 5 _ rfl
       have c6:=(M HM5).cells 6 _ rfl
       have c7:=(M HM5).cells 7 _ rfl
       have c8:=(M HM5).cells 8 _ rfl
       simp only [Nat.zero_add] at c0 c1 c2 c3 c4 c5 c6 c7 c8
       obtain ⟨v0,z0,q0⟩:=zF xG 0 (by omega)
       obtain ⟨v1,z1,q1⟩:=zF xG 1 (by omega)
       obtain ⟨v2,z2,q2⟩:=zF xG 2 (by omega)
       obtain ⟨v3,z3,q3⟩:=zF xG 3 (by omega)
       obtain ⟨v4,z4,q4⟩:=zF xG 4 (by omega)
       obtain ⟨v5,z5,q5⟩:=zF xG 5 (by omega)
       obtain ⟨v6,z6,q6⟩:=zF xG 6 (by omega)
       obtain ⟨v7,z7,q7⟩:=zF xG 7 (by omega)
       obtain ⟨v8,z8,q8⟩:=zF xG 8 (by omega)
       simp only [Nat.zero_add] at z0 q0 z1 q1 z2 q2 z3 q3 z4 q4 z5 q5 z6 q6 z7 q7 z8 q8
       clear xG
       go_wp2_with fail
       try simp (config:={ zetaDelta:=true }) only [Exit.noGoto_ret]
       change bodyPost _ _ _ _ _ (w5.setCells (w.heap.size + 1 + 1) 0 [H (next + 1),.slice aq ll.length cq,H next,H s,H (tk pr),H lf,H li,yi O,.slice av ts.length cv])
       generalize w5.setCells (w.heap.size + 1 + 1) 0 [H (next + 1),.slice aq ll.length cq,H next,H s,H (tk pr),H lf,H li,yi O,.slice av ts.length cv] = WE at ud ⊢
       obtain ⟨d0,d1,d2,d3,d4,d5,d6,d7,d8⟩:=yB (M ud).1
       try simp only [Exit.inBlock,Exit.then]
       refine bodyPost_ret (by simp [results,Tryz.results112,go_sem,d0,d1,d2,d3,d4,d5,d6,d7,d8]; try rfl) rfl ?_
       rw [M pO]
       exact ⟨_,_,rfl,(M ud).2.1,(M ud).2.2.1,(M ud).2.2.2⟩
      ·obtain ⟨k,qN,pA,hI6,hms⟩:=mi_step (M hI) oU (M HFO) hme
       have hxm:=(M HGL).left x (yL pA)
       have ux:Hid (_∧_∧_∧_):=⟨qN,pA,hI6,hms⟩
       have hl1:=(M hI).l1
       have oy:=(M HGL).len
       have hfew:=(M hI).few
       have ur:Hid (0 ≤ lf∧lf ≤ 1000000∧0 ≤ x.left∧x.left ≤ 1000000∧ll.length ≤ 1000∧ts.length ≤ 1000):=⟨by omega,by omega,by omega,by omega,by omega,by omega⟩
       clear qN pA hI6 hms hme hxm hl1 oy hfew
       go_wp2_with fail
       refine (trade_any N W3.heap.size (next + 1) _ ll ⟨next,s,tk pr,lf,li,O⟩ _ ts x k w5 (M HM5) (M ux).1 (M ux).2.1 (M ur).2.2.2.2.1 (M ur).2.2.2.2.2 (M ur).1 (M ur).2.1 (M ur).2.2.1 (M ur).2.2.2.1 _ rfl).mono ?_
       rintro e w6 ⟨uV,vt',rfl,hM6,hK6⟩
       have HM6:=Q hM6
       have pR:=Q hK6
       clear hM6 hK6 s0 s1 s2 s3 s4 s5
       go_wp2_with fail
       dsimp only [H,I,J]
       go_roundw
       case rel=>exact ⟨uV,_,_,vt',_,M HM6,(M ux).2.2.1,zk (M ky) (M pR)⟩
       case measure =>
        rw [meas_eq (M HM6),meas_eq (M hM)]
        have:=(M ux).2.2.2
        simp only [if_pos oU]
        exact this
    ·rintro xx hR qt i op ⟨f,rfl,xe,U⟩ xk hx Y xq D
     have n12':i ≠ 10→i < 12→¬ xx[12]? = some true:=fun xA xL qp=>by
      have uL:=yd xk 12 rfl qp 11 rfl
      have h9:=yd xk 12 rfl qp 9 rfl
      have h8:=yd xk 9 rfl h9 8 rfl
      have h7:=yd xk 8 rfl h8 7 rfl
      have h6:=yd xk 7 rfl h7 6 rfl
      have h5:=yd xk 6 rfl h6 5 rfl
      have z:=yd xk 5 rfl h5 1 rfl
      have h4:=yd xk 5 rfl h5 4 rfl
      have h0:=yd xk 1 rfl z 0 rfl
      have h3:=yd xk 4 rfl h4 3 rfl
      have K:=yd xk 3 rfl h3 2 rfl
      have ub:∀ j,j ≠ 10→j < 12→xx[j]? = some true:=fun j jk L=>by
       rcases (by omega:j = 0 ∨ j = 1 ∨ j = 2 ∨ j = 3 ∨ j = 4 ∨ j = 5 ∨ j = 6 ∨ j = 7 ∨ j = 8 ∨ j = 9 ∨ j = 11) with rfl | rfl | rfl | rfl | rfl | rfl | rfl | rfl | rfl | rfl | rfl <;> assumption
      rw [ub i xA xL] at xq; cases xq
     clear xk y5
     have uE:=Q xe
     have HD:=Q U
     have jo:=Q (zh (M HRW) xe tg)
     have z0:=zb (M hM).cells xe (M hM).lt 0 _ rfl
     have z1:=zb (M hM).cells xe (M hM).lt 1 _ rfl
     have o0:=zb (M pe) xe hl3 0 _ rfl
     rw [Nat.zero_add] at z0 z1 o0
     match i,Y with
    | 0,Y =>
     obtain rfl:=hD Y
     clear D U xe
     rw [if_pos (by rfl)];unfold Oper.wp;go_simp
     exact ⟨upd f 0 (I N 0),by simp [upd],zc (M uE) (M HD) (by decide) rfl⟩
    | 1,Y =>
     obtain rfl:=hD Y
     have g:f 0 = I N 0:=U 0 (yc D 0 rfl)
     clear D U xe
     rw [if_pos (by rfl)];unfold Oper.wp;go_simp
     exact ⟨upd f 1 (.agg #[H (next + 1),.slice aq ll.length cq]),by simp [upd,g],zc (M uE) (M HD) (by decide) rfl⟩
    | 2,Y =>
     obtain rfl:=hD Y
     clear D U xe
     rw [if_pos (by rfl)];unfold Oper.wp;go_simp
     exact ⟨upd f 2 (I (w.heap.size + 1) 0),by simp [upd],zc (M uE) (M HD) (by decide) rfl⟩
    | 3,Y =>
     obtain rfl:=hD Y
     have g:f 2 = I (w.heap.size + 1) 0:=U 2 (yc D 2 rfl)
     clear D U xe
     rw [if_pos (by rfl)];unfold Oper.wp;go_simp
     exact ⟨upd f 3 (H s),by simp [upd,g],zc (M uE) (M HD) (by decide) rfl⟩
    | 4,Y =>
     obtain rfl:=hD Y
     have g:f 3 = H s:=U 3 (yc D 3 rfl)
     clear D U xe
     rw [if_pos (by rfl)];unfold Oper.wp;go_simp
     refine (otherSide_any s qt).mono ?_
     rw [M HSD]
     rintro e w4 ⟨rfl,rfl⟩
     exact ⟨upd f 4 (H sd),by simp [upd,g],zc (M uE) (M HD) (by decide) rfl⟩
    | 5,Y =>
     obtain rfl:=hD Y
     have g1:f 1 = .agg #[H (next + 1),.slice aq ll.length cq]:=U 1 (yc D 1 rfl)
     have g4:f 4 = H sd:=U 4 (yc D 4 rfl)
     have pK:=n12' (by omega) (by omega)
     clear D U xe
     rw [if_pos (by rfl)];unfold Oper.wp;go_simp
     by_cases uu:sd = 1
     ·subst uu
      refine (eg (next + 1) _ ll qt (M jo) (M HGL).len (M HLB)).mono ?_
      rintro e w4 ⟨b,rfl,ht,qI,xy⟩
      exact ⟨upd f 5 (aU b),by simp [upd,g1,g4],aP (M uE) (M HD) xy (by decide) (dq_grow pK xy) (fun _=>.inl ⟨rfl,b,rfl,ht⟩)⟩
     ·refine (dY (next + 1) sd uu _ ll qt (M jo) (M HGL).len (M HLB)).mono ?_
      rintro e w4 ⟨b,rfl,ht,qI,xy⟩
      exact ⟨upd f 5 (aV b),by simp [upd,g1,g4],aP (M uE) (M HD) xy (by decide) (dq_grow pK xy) (fun _=>.inr ⟨uu,b,rfl,ht⟩)⟩
    | 6,Y =>
     obtain rfl:=hD Y
     have pK:=n12' (by omega) (by omega)
     rcases U 5 (yc D 5 rfl) pK with ⟨uu,b,g5,ht⟩ | ⟨uu,b,g5,ht⟩
     ·subst uu
      have HT:=Q ht
      have hfl:=field0_bm b qt
      clear D U xe ht
      rw [if_pos (by rfl)];unfold Oper.wp;go_simp
      exact ⟨upd f 6 (.func (.func 122) #[I b 0] #[]),by simp [upd,g5],zc (M uE) (M HD) (by decide) (fun _=>.inl ⟨rfl,b,rfl,M HT⟩)⟩
     ·have HT:=Q ht
      have hfl:=field0_sm b qt
      clear D U xe ht
      rw [if_pos (by rfl)];unfold Oper.wp;go_simp
      exact ⟨upd f 6 (.func (.func 126) #[I b 0] #[]),by simp [upd,g5],zc (M uE) (M HD) (by decide) (fun _=>.inr ⟨uu,b,rfl,M HT⟩)⟩
    | 7,Y =>
     obtain rfl:=hD Y
     have pK:=n12' (by omega) (by omega)
     rcases U 6 (yc D 6 rfl) pK with ⟨uu,b,g6,ht⟩ | ⟨uu,b,g6,ht⟩
     ·subst uu
      have HT:=Q ht
      have HE:Hid (frOf (quOf true (zn ll 1)) = .tuple #[.agg (yt x.id x.side x.ticks x.left x.life x.tag).toArray,.bool fb]):=by
       show _ = _
       have:=M HFR
       simpa using this
      clear D U xe ht
      rw [if_pos (by rfl)];unfold Oper.wp;go_simp
      refine (front_b b 1 (zn ll 1) qt (M HT) (yK (List.length_filter_le _ _) (M HGL).len)).mono ?_
      rw [M HE]
      rintro e w4 ⟨rfl,xy⟩
      exact ⟨upd f 7 (.tuple #[.agg (yt x.id x.side x.ticks x.left x.life x.tag).toArray,.bool fb]),by simp [upd,g6],aP (M uE) (M HD) xy (by decide) (dq_grow pK xy) rfl⟩
     ·have HT:=Q ht
      have HE:Hid (frOf (quOf false (zn ll sd)) = .tuple #[.agg (yt x.id x.side x.ticks x.left x.life x.tag).toArray,.bool fb]):=by
       have:=M HFR
       rw [decide_eq_false uu] at this
       exact this
      clear D U xe ht
      rw [if_pos (by rfl)];unfold Oper.wp;go_simp
      refine (front_s b sd (zn ll sd) qt (M HT) (yK (List.length_filter_le _ _) (M HGL).len)).mono ?_
      rw [M HE]
      rintro e w4 ⟨rfl,xy⟩
      exact ⟨upd f 7 (.tuple #[.agg (yt x.id x.side x.ticks x.left x.life x.tag).toArray,.bool fb]),by simp [upd,g6],aP (M uE) (M HD) xy (by decide) (dq_grow pK xy) rfl⟩
    | 8,Y =>
     obtain rfl:=hD Y
     have g:f 7 = .tuple #[.agg (yt x.id x.side x.ticks x.left x.life x.tag).toArray,.bool fb]:=U 7 (yc D 7 rfl)
     clear D U xe
     rw [if_pos (by rfl)];unfold Oper.wp;go_simp
     exact ⟨upd f 8 (.tuple #[.agg (yt x.id x.side x.ticks x.left x.life x.tag).toArray,.bool fb]),by simp [upd,g],zc (M uE) (M HD) (by decide) rfl⟩
    | 9,Y =>
     obtain rfl:=hD Y
     have g:f 8 = .tuple #[.agg (yt x.id x.side x.ticks x.left x.life x.tag).toArray,.bool fb]:=U 8 (yc D 8 rfl)
     clear D U xe
     rw [if_pos (by rfl)];unfold Oper.wp;go_simp
     exact ⟨upd f 9 (.agg (yt x.id x.side x.ticks x.left x.life x.tag).toArray),by simp [upd,g],zc (M uE) (M HD) (by decide) rfl⟩
    | 10,Y =>
     obtain rfl:=hD Y
     have g:f 8 = .tuple #[.agg (yt x.id x.side x.ticks x.left x.life x.tag).toArray,.bool fb]:=U 8 (yc D 8 rfl)
     clear D U xe
     rw [if_pos (by rfl)];unfold Oper.wp;go_simp
     exact ⟨upd f 10 (.bool fb),by simp [upd,g],zc (M uE) (M HD) (by decide) rfl⟩
    | 11,Y =>
     obtain rfl:=hD Y
     have pK:=n12' (by omega) (by omega)
     clear D U xe
     rw [if_pos (by rfl)];unfold Oper.wp;go_simp
     have xy:=eD qt (E (yt 0 0 0 0 0 ⟨#[]⟩).toArray 49)
     exact ⟨upd f 11 (ym qt 0),by simp [upd],aP (M uE) (M HD) xy (by decide) (dq_grow pK xy) ⟨qt.heap.size,rfl,(M uE).size,fun _=>⟨zH qt (yt 0 0 0 0 0 ⟨#[]⟩) _,by rw [ze]; omega⟩,fun h=>absurd h pK⟩⟩
    | 12,Y =>
     obtain rfl:=hD Y
     have pK:¬ xx[12]? = some true:=by rw [xq]; simp
     have g9:f 9 = .agg (yt x.id x.side x.ticks x.left x.life x.tag).toArray:=U 9 (yc D 9 rfl)
     obtain ⟨pb,vr,hpb,xG,-⟩:=U 11 (yc D 11 rfl)
     obtain ⟨xG,hplt⟩:=xG pK
     have jf:=Q xG
     obtain ⟨u0,y0,q0⟩:=zF xG 0 (by omega)
     obtain ⟨u1,y1,q1⟩:=zF xG 1 (by omega)
     obtain ⟨u2,y2,q2⟩:=zF xG 2 (by omega)
     obtain ⟨u3,y3,q3⟩:=zF xG 3 (by omega)
     obtain ⟨u4,y4,q4⟩:=zF xG 4 (by omega)
     obtain ⟨u5,y5,q5⟩:=zF xG 5 (by omega)
     simp only [Nat.zero_add] at y0 q0 y1 q1 y2 q2 y3 q3 y4 q4 y5 q5
     clear D U xe xG
     rw [if_pos (by rfl)];unfold Oper.wp;go_simp
     refine ⟨upd f 12 Z,by simp [upd,g9,vr],rgx_last (zu pb hpb (yt x.id x.side x.ticks x.left x.life x.tag) 0 qt (M uE)) (M HD) xq (fun j L hxj h=>dq_last j L h (fun hj11=>?_)) trivial⟩
     subst hj11
     refine ⟨pb,vr,hpb,fun h=>absurd trivial h,fun _=>⟨?_,?_⟩⟩
     ·exact yU qt pb 0 (yt x.id x.side x.ticks x.left x.life x.tag) (fun j L=>M jf j L)
     ·show pb < (qt.setCells pb 0 (yt x.id x.side x.ticks x.left x.life x.tag)).heap.size
      simp only [World.setCells,World.setCell,Array.size_modify]; exact hplt
    | 13,Y =>
     obtain rfl:=hD Y
     have g:f 10 = .bool fb:=U 10 (yc D 10 rfl)
     clear D U xe
     rw [if_pos (by rfl)];unfold Oper.wp;go_simp
     exact ⟨upd f 13 (.bool fb),by simp [upd,g],zc (M uE) (M HD) (by decide) rfl⟩
    | i + 14,Y=>simp at Y
   ·have pO:Hid (xh = (ll,lf,ts)):=mi_done (M hI) oU
    have xG:wr.there (w.heap.size + 1 + 1) 0 9:=fun j L=>by
     have hb:=(M hK).block (w.heap.size + 1 + 1) (by have:=M kh; omega) (by have:=M kh; have:=M HMB; omega)
     have:=(M HX).2.2 j L
     rw [yN (a:=(J (w.heap.size + 1 + 1) (0 + j))) hb,World.frozen?_of_block (a:=(J (w.heap.size + 1 + 1) (0 + j))) hb]
     exact this
    have ud:=Q (match_end (M hM) (M hK) (M xM) (M kh) (M HMB) [H (next + 1),.slice aq ll.length cq,H next,H s,H (tk pr),H lf,H li,yi O,.slice av ts.length cv] rfl xG)
    have c0:=(M hM).cells 0 _ rfl
    have c1:=(M hM).cells 1 _ rfl
    have c2:=(M hM).cells 2 _ rfl
    have c3:=(M hM).cells 3 _ rfl
    have c4:=(M hM).cells 4 _ rfl
    have c5:=(M hM).cells 5 _ rfl
    have c6:=(M hM).cells 6 _ rfl
    have c7:=(M hM).cells 7 _ rfl
    have c8:=(M hM).cells 8 _ rfl
    simp only [Nat.zero_add] at c0 c1 c2 c3 c4 c5 c6 c7 c8
    obtain ⟨v0,z0,q0⟩:=zF xG 0 (by omega)
    obtain ⟨v1,z1,q1⟩:=zF xG 1 (by omega)
    obtain ⟨v2,z2,q2⟩:=zF xG 2 (by omega)
    obtain ⟨v3,z3,q3⟩:=zF xG 3 (by omega)
    obtain ⟨v4,z4,q4⟩:=zF xG 4 (by omega)
    obtain ⟨v5,z5,q5⟩:=zF xG 5 (by omega)
    obtain ⟨v6,z6,q6⟩:=zF xG 6 (by omega)
    obtain ⟨v7,z7,q7⟩:=zF xG 7 (by omega)
    obtain ⟨v8,z8,q8⟩:=zF xG 8 (by omega)
    simp only [Nat.zero_add] at z0 q0 z1 q1 z2 q2 z3 q3 z4 q4 z5 q5 z6 q6 z7 q7 z8 q8
    clear xG
    go_wp2_with fail
    try simp (config:={ zetaDelta:=true }) only [Exit.noGoto_ret]
    change bodyPost _ _ _ _ _ (wr.setCells (w.heap.size + 1 + 1) 0 [H (next + 1),.slice aq ll.length cq,H next,H s,H (tk pr),H lf,H li,yi O,.slice av ts.length cv])
    generalize wr.setCells (w.heap.size + 1 + 1) 0 [H (next + 1),.slice aq ll.length cq,H next,H s,H (tk pr),H lf,H li,yi O,.slice av ts.length cv] = WE at ud ⊢
    obtain ⟨d0,d1,d2,d3,d4,d5,d6,d7,d8⟩:=yB (M ud).1
    try simp only [Exit.inBlock,Exit.then]
    refine bodyPost_ret (by simp [results,Tryz.results112,go_sem,d0,d1,d2,d3,d4,d5,d6,d7,d8]; try rfl) rfl ?_
    rw [M pO]
    exact ⟨_,_,rfl,(M ud).2.1,(M ud).2.2.1,(M ud).2.2.2⟩
 ·rintro x hR V i op ⟨f,rfl,xe,U⟩ xk hx Y xq D
  have n8':i < 8→¬ x[8]? = some true:=fun xL h8=>by
   have h7:=yd xk 8 rfl h8 7 rfl
   have h6:=yd xk 8 rfl h8 6 rfl
   have h5:=yd xk 6 rfl h6 5 rfl
   have z:=yd xk 6 rfl h6 1 rfl
   have h0:=yd xk 1 rfl z 0 rfl
   have K:=yd xk 5 rfl h5 2 rfl
   have h4:=yd xk 5 rfl h5 4 rfl
   have h3:=yd xk 4 rfl h4 3 rfl
   have ub:∀ j,j < 8→x[j]? = some true:=fun j L=>by
    rcases (by omega:j = 0 ∨ j = 1 ∨ j = 2 ∨ j = 3 ∨ j = 4 ∨ j = 5 ∨ j = 6 ∨ j = 7) with rfl | rfl | rfl | rfl | rfl | rfl | rfl | rfl <;> assumption
   rw [ub i xL] at xq; cases xq
  clear xk
  have xo:=Q xe
  have HD:=Q U
  have qC:=Q (zh (M oI) xe tg)
  have z0:=zb (M HX).1 xe (by omega) 0 _ rfl
  have z1:=zb (M HX).1 xe (by omega) 1 _ rfl
  have o0:=zb (M HX).2.1 xe (by omega) 0 _ rfl
  have o1:=zb (M HX).2.1 xe (by omega) 1 _ rfl
  have o2:=zb (M HX).2.1 xe (by omega) 2 _ rfl
  have o3:=zb (M HX).2.1 xe (by omega) 3 _ rfl
  have o4:=zb (M HX).2.1 xe (by omega) 4 _ rfl
  have o5:=zb (M HX).2.1 xe (by omega) 5 _ rfl
  rw [Nat.zero_add] at z0 z1 o0 o1 o2 o3 o4 o5
  clear hw3
  match i,Y with
  | 0,Y =>
   obtain rfl:=hD Y
   clear D U xe
   rw [if_pos (by rfl)];unfold Oper.wp;go_simp
   exact ⟨upd f 0 (.agg #[H next,.slice a l.length F]),by simp [upd],zc (M xo) (M HD) (by decide) rfl⟩
  | 1,Y =>
   obtain rfl:=hD Y
   have g:f 0 = .agg #[H next,.slice a l.length F]:=U 0 (yc D 0 rfl)
   have n8:=n8' (by omega)
   clear D U xe
   rw [if_pos (by rfl)];unfold Oper.wp;go_simp
   refine (copyBook_any next _ l V (M qC) hsl (by omega)).mono ?_
   rintro e w4 ⟨v4,rfl,ka,xy⟩
   obtain ⟨a4,c4,rfl⟩:=rd_lenF (zT ka (by omega))
   exact ⟨upd f 1 (.agg #[H next,.slice a4 l.length c4]),by simp [upd,g],aP (M xo) (M HD) xy (by decide) (dm_grow n8 xy) ⟨a4,c4,rfl,fun _=>bV ka (M xo).size⟩⟩
  | 2,Y =>
   obtain rfl:=hD Y
   clear D U xe
   rw [if_pos (by rfl)];unfold Oper.wp;go_simp
   exact ⟨upd f 2 (.agg #[H s,H ty,H li,H X,yh pr,yi O]),by simp [upd],zc (M xo) (M HD) (by decide) rfl⟩
  | 3,Y =>
   obtain rfl:=hD Y
   clear D U xe
   rw [if_pos (by rfl)];unfold Oper.wp;go_simp
   exact ⟨upd f 3 (ym w 0),by simp [upd],zc (M xo) (M HD) (by decide) rfl⟩
  | 4,Y =>
   obtain rfl:=hD Y
   have g:f 3 = ym w 0:=U 3 (yc D 3 rfl)
   clear D U xe
   rw [if_pos (by rfl)];unfold Oper.wp;go_simp
   exact ⟨upd f 4 (H next),by simp [upd,g],zc (M xo) (M HD) (by decide) rfl⟩
  | 5,Y =>
   obtain rfl:=hD Y
   have g2:f 2 = .agg #[H s,H ty,H li,H X,yh pr,yi O]:=U 2 (yc D 2 rfl)
   have g4:f 4 = H next:=U 4 (yc D 4 rfl)
   have n8:=n8' (by omega)
   clear D U xe
   rw [if_pos (by rfl)];unfold Oper.wp;go_simp
   refine (order_any ⟨kk,s,ty,li,X,ii,pr,O⟩ next V).mono ?_
   rintro e w4 ⟨rfl,xy⟩
   exact ⟨upd f 5 (.agg (yt next s (tk pr) X li O).toArray),by simp [upd,g2,g4],aP (M xo) (M HD) xy (by decide) (dm_grow n8 xy) rfl⟩
  | 6,Y =>
   obtain rfl:=hD Y
   obtain ⟨a4,c4,g1,vV⟩:=U 1 (yc D 1 rfl)
   have g5:f 5 = .agg (yt next s (tk pr) X li O).toArray:=U 5 (yc D 5 rfl)
   have uZ:=Q vV
   clear D U xe vV
   rw [if_pos (by rfl)];unfold Oper.wp;go_simp
   exact ⟨upd f 6 (.agg #[H next,.slice a4 l.length c4,H next,H s,H (tk pr),H X,H li,yi O,.slice none 0 0]),by simp [upd,g1,g5],zc (M xo) (M HD) (by decide) ⟨a4,c4,rfl,M uZ⟩⟩
  | 7,Y =>
   obtain rfl:=hD Y
   have n8:=n8' (by omega)
   clear D U xe
   rw [if_pos (by rfl)];unfold Oper.wp;go_simp
   have xy:=eD V (E #[H 0,.slice none 0 0,H 0,H 0,H 0,H 0,H 0,yi ⟨#[]⟩,.slice none 0 0] 157)
   exact ⟨upd f 7 (ym V 0),by simp [upd],aP (M xo) (M HD) xy (by decide) (dm_grow n8 xy) ⟨V.heap.size,rfl,(M xo).size,fun _=>⟨zH V [H 0,.slice none 0 0,H 0,H 0,H 0,H 0,H 0,yi ⟨#[]⟩,.slice none 0 0] _,_,heap_alloc_new V _⟩,fun h=>absurd h n8⟩⟩
  | 8,Y =>
   obtain rfl:=hD Y
   have n8:¬ x[8]? = some true:=by rw [xq]; simp
   obtain ⟨a4,c4,g6,qM⟩:=U 6 (yc D 6 rfl)
   obtain ⟨N,g7,hmb,xG,-⟩:=U 7 (yc D 7 rfl)
   obtain ⟨xG,vF⟩:=xG n8
   have HO6:=Q (qM n8)
   have jf:=Q xG
   have uE:=Q vF
   obtain ⟨u0,y0,q0⟩:=zF xG 0 (by omega)
   obtain ⟨u1,y1,q1⟩:=zF xG 1 (by omega)
   obtain ⟨u2,y2,q2⟩:=zF xG 2 (by omega)
   obtain ⟨u3,y3,q3⟩:=zF xG 3 (by omega)
   obtain ⟨u4,y4,q4⟩:=zF xG 4 (by omega)
   obtain ⟨u5,y5,q5⟩:=zF xG 5 (by omega)
   obtain ⟨u6,y6,q6⟩:=zF xG 6 (by omega)
   obtain ⟨u7,y7,q7⟩:=zF xG 7 (by omega)
   obtain ⟨u8,y8,q8⟩:=zF xG 8 (by omega)
   simp only [Nat.zero_add] at y0 q0 y1 q1 y2 q2 y3 q3 y4 q4 y5 q5 y6 q6 y7 q7 y8 q8
   clear D U xe qM xG vF
   rw [if_pos (by rfl)];unfold Oper.wp;go_simp
   refine ⟨upd f 8 Z,by simp [upd,g6,g7],rgx_last (zu N hmb [H next,.slice a4 l.length c4,H next,H s,H (tk pr),H X,H li,yi O,.slice none 0 0] 0 V (M xo)) (M HD) xq (fun j L hxj h=>dm_last j L h (fun hj7=>?_)) trivial⟩
   subst hj7
   refine ⟨N,g7,hmb,fun h=>absurd trivial h,fun _=>⟨a4,c4,?_⟩⟩
   exact matS_made (c:=⟨kk,s,ty,li,X,ii,pr,O⟩) (M jf) (M uE) (M HO6) (by have:=(M xo).size; omega)
  | i + 9,Y=>simp at Y
end Go.Proofs.YtbakanofkghmiaaGreat
