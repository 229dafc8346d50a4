/-
  What comes of a new order, by the program: proved by walking the function.
-/
import Derived.Test.YtbakanofkghmiaaGreatWj14
import Derived.WalkMore
set_option linter.unusedVariables false
set_option maxHeartbeats 6400000
set_option maxRecDepth 100000
namespace Go.Proofs.YtbakanofkghmiaaGreat
open Go.RowKit
theorem match_any (next:Int) (vb:Value) (l:List Od) (c:Cm) (w:World) (hr:RdR Od.vs 6 w vb l) (hs:SlOk vb) (hg:GoodL l) (h0:0 ≤ next) (G:next ≤ 1000000) (qd:0 ≤ c.q) (qe:c.q ≤ 1000000) :
  Calls Tryz.prog 112 #[.agg #[H next,vb],noV c] w fun e w'=>∃ vq vt,e = ym (.agg #[H (next + 1),vq,H next,H c.s,H (tk c.p),H (matL c next 21 l c.q []).2.1,H c.l,yk c.g,vt])∧ORow w' w.heap.size vq (matL c next 21 l c.q []).1∧ERow w' w.heap.size vt (matL c next 21 l c.q []).2.2∧yn w w':=by
 have HR:=Y hr
 have HG:=Y hg
 have hsl:=hs
 have HMI:=Y (mi_start (c:=c) (id:=next) hg qd qe)
 have hn:=hg.len
 obtain ⟨a,A,rfl,xE,hc⟩:=hr
 generalize hF:matL c next 21 l c.q [] = hb at HMI ⊢
 clear hF hc hg hs
 obtain ⟨kk,s,ty,li,O,ii,pr,L⟩:=c
 unfold noV
 simp only at *
 have xA:=zh w (eF #[H next,.slice a l.length A] 28)
 have ua:((w.alloc (eF #[H next,.slice a l.length A] 28)).alloc (eF #[H s,H ty,H li,H O,yj pr,yk L] 112)).heap.size = w.heap.size + 1 + 1:=by rw [zh,xA]
 have jt:(((w.alloc (eF #[H next,.slice a l.length A] 28)).alloc (eF #[H s,H ty,H li,H O,yj pr,yk L] 112)).alloc (eF #[H 0,.slice none 0 0,H 0,H 0,H 0,H 0,H 0,yk ⟨#[]⟩,.slice none 0 0] 157)).heap.size = w.heap.size + 1 + 1 + 1:=by rw [zh,ua]
 have r1:=zi w [H next,.slice a l.length A] 28
 have r2:=zi (w.alloc (eF #[H next,.slice a l.length A] 28)) [H s,H ty,H li,H O,yj pr,yk L] 112
 rw [xA] at r2
 have t3:=zv ((w.alloc (eF #[H next,.slice a l.length A] 28)).alloc (eF #[H s,H ty,H li,H O,yj pr,yk L] 112)) [H 0,.slice none 0 0,H 0,H 0,H 0,H 0,H 0,yk ⟨#[]⟩,.slice none 0 0] 157
 rw [ua] at t3
 have xV:Hid (yn w (((w.alloc (eF #[H next,.slice a l.length A] 28)).alloc (eF #[H s,H ty,H li,H O,yj pr,yk L] 112)).alloc (eF #[H 0,.slice none 0 0,H 0,H 0,H 0,H 0,H 0,yk ⟨#[]⟩,.slice none 0 0] 157))):=((eD _ _).alloc (by rw [xA]; omega) _).alloc (by rw [ua]; omega) _
 have b23:Below (w.heap.size + 1 + 1) ((w.alloc (eF #[H next,.slice a l.length A] 28)).alloc (eF #[H s,H ty,H li,H O,yj pr,yk L] 112)) (((w.alloc (eF #[H next,.slice a l.length A] 28)).alloc (eF #[H s,H ty,H li,H O,yj pr,yk L] 112)).alloc (eF #[H 0,.slice none 0 0,H 0,H 0,H 0,H 0,H 0,yk ⟨#[]⟩,.slice none 0 0] 157)):=(Below.refl _ _).alloc (by rw [ua]; omega) _
 have qw:Below (w.heap.size + 1) (w.alloc (eF #[H next,.slice a l.length A] 28)) ((w.alloc (eF #[H next,.slice a l.length A] 28)).alloc (eF #[H s,H ty,H li,H O,yj pr,yk L] 112)):=(Below.refl _ _).alloc (by rw [xA]; omega) _
 have HX:Hid (_∧_∧_):=⟨zb (zb r1 qw (by omega)) b23 (by omega),zb r2 b23 (by omega),t3⟩
 have kC:=Y jt
 clear xA ua jt r1 r2 t3 b23 qw
 go_enter Tryz.func112,Tryz.ntmps112
 go_wp2_with fail
 go_step3
 go_wp2_with fail
 generalize (((w.alloc (eF #[H next,.slice a l.length A] 28)).alloc (eF #[H s,H ty,H li,H O,yj pr,yk L] 112)).alloc (eF #[H 0,.slice none 0 0,H 0,H 0,H 0,H 0,H 0,yk ⟨#[]⟩,.slice none 0 0] 157)) = W3 at xV HX kC ⊢
 have HX:Hid (W3.rangeAt w.heap.size 0 [H next,.slice a l.length A]∧W3.rangeAt (w.heap.size + 1) 0 [H s,H ty,H li,H O,yj pr,yk L]∧W3.there (w.heap.size + 1 + 1) 0 9):=U HX
 have hw3:W3.heap.size = w.heap.size + 1 + 1 + 1:=U kC
 have HR3:=Y (zn (U HR) (U xV) qt)
 refine zj (RG W3 (fun f=>{ tmps:=#[.agg #[H next,.slice a l.length A],.agg #[H s,H ty,H li,H O,yj pr,yk L],yp w 0,I (w.heap.size + 1) 0,I (w.heap.size + 1 + 1) 0,f 7,M,M,f 0,f 1,f 2,f 3,f 4,f 5,f 6,M,M,M,M,M,M,M,M,M,M,M,M,M,M,M,M,M,M,M,M,M,M,M,M,M,M,M,M,M,M,M],defers:=[] }) 8 (DM w.heap.size W3.heap.size W3 next a A l ⟨kk,s,ty,li,O,ii,pr,L⟩)) (by kernel_rfl) ?_ ?_ ?_
 ·exact ⟨fun _=>M,rfl,⟨rfl,rfl,rfl,Nat.le_refl _,fun _ _=>rfl⟩,fun j K=>by rw [yI] at K; split at K <;> simp at K⟩
 ·rintro x xm V ⟨f,rfl,xk,hD⟩ hx xP
  have xp:=zV xP hx (acyc _ (by kernel_rfl))
  have k8:x[8]? = some true:=xp 8 (by simp)
  obtain ⟨mb,g7,hmb,-,vk⟩:=hD 7 (xp 7 (by simp))
  obtain ⟨a4,c4,hM⟩:=vk k8
  have HM:=Y hM
  have xv:=Y xk
  have y0:V.cell? (J mb 0) = some (H next):=hM.cells 0 _ rfl
  have f0:V.frozen? (J mb 0) = false:=by have:=(hM.there 0 (by omega)).2; rwa [Nat.zero_add] at this
  have hwr:IntKind.i64.wrap (next + 1) = next + 1:=by rw [IntKind.wrap_i64]; omega
  dsimp only
  simp only [g7]
  generalize f 0 = e0,f 1 = e1,f 2 = e2,f 3 = e3,f 4 = e4,f 5 = e5,f 6 = e6
  clear hD xp xP hx k8 vk hM xk g7 x f
  go_wp2_with fail
  go_step3
  go_wp2_with fail
  have HMB:=Y hmb
  clear hw3 hmb y0 f0
  go_loopw [] (fun wr=>∃ vq ll lf vt ts,Hid (MatS mb W3.heap.size wr (next + 1) vq ll ⟨next,s,tk pr,lf,li,L⟩ vt ts)∧Hid (MI ⟨kk,s,ty,li,O,ii,pr,L⟩ next hb ll lf ts)∧Hid (KeptBut mb W3.heap.size W3 wr)) (fun wr=>meas mb wr)
  case atStart=>exact ⟨_,l,O,_,[],matS_next (U HM) (next + 1),U HMI,zk (zC (U xv) qt) (cV V 0 _)⟩
  case round =>
   obtain ⟨vq,ll,lf,vt,ts,hM,hI,hK⟩:=hrel
   have y5:wr.cell? (J mb 5) = some (H lf):=(U hM).cells 5 _ rfl
   obtain ⟨av,cv,rfl⟩:∃ a c,vt = .slice a ts.length c:=by
    rcases (U hM).erow.2 with ⟨e,e2⟩ | ⟨g,A,xr,e,_⟩
    ·exact ⟨none,0,by rw [e,e2]⟩
    ·exact ⟨_,_,e⟩
   obtain ⟨aq,cq,rfl⟩:∃ a c,vq = .slice a ll.length c:=by
    rcases (U hM).orow.2 with ⟨e,e2⟩ | ⟨g,A,xr,e,_⟩
    ·exact ⟨none,0,by rw [e,e2]⟩
    ·exact ⟨_,_,e⟩
   by_cases pu:0 < lf
   ·have kM:=Y (U hI).good
    have HLB:Hid (∀ o' ∈ ll,0 ≤ o'.left∧o'.left ≤ 1000000):=fun o' vB=>by have:=(U kM).left o' vB; omega
    have HRW:=Y (zN (U hM).orow (by have:=(U kM).len; omega))
    generalize uD:othS s = sd
    have HSD:=Y uD
    generalize hq:quOf (decide (sd = 1)) (zx ll sd) = q
    have oS:=frOf_eq q
    generalize hx:hdO q = x at oS
    generalize hfb:hdF q = fb at oS
    have HFR:Hid (frOf (quOf (decide (sd = 1)) (zx ll sd)) = .tuple #[.agg (yv x.id x.side x.ticks x.left x.life x.tag).toArray,.bool fb]):=by show _ = _; rw [hq]; exact oS
    have HFO:Hid (aU ll (othS s) = if fb = true then some x else none):=by
     show _ = _
     rw [aU,uD,hq,← hx,← hfb,hdO,hdF]
     cases q.head? <;> rfl
    clear uD hq oS hx hfb q
    have jt:=U kC
    have hc3:∀ j,wr.cell? (J (w.heap.size + 1) j) = W3.cell? (J (w.heap.size + 1) j):=fun j=>yQ (a:=(J (w.heap.size + 1) j)) ((U hK).block (w.heap.size + 1) (by omega) (by have:=U HMB; omega))
    have pE:Hid (wr.rangeAt (w.heap.size + 1) 0 [H s,H ty,H li,H O,yj pr,yk L]):=fun j u K=>(hc3 _).trans ((U HX).2.1 j u K)
    have hl3:w.heap.size + 1 < wr.heap.size:=by have:=(U hK).size; omega
    clear hc3 jt
    go_wp2_with fail
    refine zj (RG wr (fun f=>{ tmps:=#[.agg #[H next,.slice a l.length A],.agg #[H s,H ty,H li,H O,yj pr,yk L],yp w 0,I (w.heap.size + 1) 0,I (w.heap.size + 1 + 1) 0,I mb 0,f 11,f 13,e0,e1,e2,e3,e4,e5,e6,I mb 0,I mb 0,H next,H (next + 1),I mb 0,I mb 0,I mb 2,I mb 5,H lf,.bool true,f 8,f 0,f 1,f 2,f 3,f 4,f 5,f 6,f 7,f 9,f 10,u36,u37,u38,u39,u40,u41,u42,u43,u44,M],defers:=[] }) 12 (DQ mb (w.heap.size + 1) wr (.agg #[H (next + 1),.slice aq ll.length cq]) s sd ll x fb)) (by kernel_rfl) ?_ ?_ ?_
    ·exact ⟨fun j=>if j = 0 then u26 else if j = 1 then u27 else if j = 2 then u28 else if j = 3 then u29 else if j = 4 then u30 else if j = 5 then u31 else if j = 6 then u32 else if j = 7 then u33 else if j = 8 then u25 else if j = 9 then u34 else if j = 10 then u35 else if j = 11 then u6 else if j = 13 then u7 else M,rfl,⟨rfl,rfl,rfl,Nat.le_refl _,fun _ _=>rfl⟩,fun j K=>by rw [yI] at K; split at K <;> simp at K⟩
    ·rintro xx xm hR ⟨f,rfl,xk,hD⟩ hx xP
     have xp:=zR xP hx (by kernel_rfl)
     have k12:xx[12]? = some true:=xp 12 (by simp)
     have kR:f 13 = .bool fb:=hD 13 (xp 13 (by simp))
     obtain ⟨pb,vF,hpb,-,vk⟩:=hD 11 (xp 11 (by simp))
     obtain ⟨kJ,hplt⟩:=vk k12
     have vC:=Y (dv (U hM) xk)
     have kf:=Y (zk (U hK) (zC xk (U hM).le))
     have o0:=zb (U pE) xk hl3 0 _ rfl
     have o1:=zb (U pE) xk hl3 1 _ rfl
     have o2:=zb (U pE) xk hl3 2 _ rfl
     have o3:=zb (U pE) xk hl3 3 _ rfl
     have o4:=zb (U pE) xk hl3 4 _ rfl
     have o5:=zb (U pE) xk hl3 5 _ rfl
     have HRG:=Y kJ
     obtain ⟨p0,p1,p2,p3,p4,p5⟩:=zz kJ
     simp only [Nat.zero_add] at o0 o1 o2 o3 o4 o5 p0 p1 p2 p3 p4 p5
     dsimp only
     simp only [kR,vF]
     generalize f 0 = b0,f 1 = b1,f 2 = b2,f 3 = b3,f 4 = b4,f 5 = b5,f 6 = b6,f 7 = b7,f 8 = b8,f 9 = b9,f 10 = b10
     clear hD xp xP hx k12 vk xk vF kR kJ hpb f xx y5
     cases fb
     ·have ax:Hid (hb = (ll,lf,ts)):=mi_none (U hI) (by have:=U HFO; simpa using this)
      clear o0 o1 o2 o3 o4 o5 p0 p1 p2 p3 p4 p5
      have xF:hR.there (w.heap.size + 1 + 1) 0 9:=fun j K=>by
       have F:=(U kf).block (w.heap.size + 1 + 1) (by have:=U kC; omega) (by have:=U kC; have:=U HMB; omega)
       have:=(U HX).2.2 j K
       rw [yQ (a:=(J (w.heap.size + 1 + 1) (0 + j))) F,World.frozen?_of_block (a:=(J (w.heap.size + 1 + 1) (0 + j))) F]
       exact this
      have um:=Y (match_end (U vC) (U kf) (U xV) (U kC) (U HMB) [H (next + 1),.slice aq ll.length cq,H next,H s,H (tk pr),H lf,H li,yk L,.slice av ts.length cv] rfl xF)
      have c0:=(U vC).cells 0 _ rfl
      have c1:=(U vC).cells 1 _ rfl
      have c2:=(U vC).cells 2 _ rfl
      have c3:=(U vC).cells 3 _ rfl
      have c4:=(U vC).cells 4 _ rfl
      have c5:=(U vC).cells 5 _ rfl
      have c6:=(U vC).cells 6 _ rfl
      have c7:=(U vC).cells 7 _ rfl
      have c8:=(U vC).cells 8 _ rfl
      simp only [Nat.zero_add] at c0 c1 c2 c3 c4 c5 c6 c7 c8
      obtain ⟨v0,z0,q0⟩:=zF xF 0 (by omega)
      obtain ⟨v1,z1,q1⟩:=zF xF 1 (by omega)
      obtain ⟨v2,z2,q2⟩:=zF xF 2 (by omega)
      obtain ⟨v3,z3,q3⟩:=zF xF 3 (by omega)
      obtain ⟨v4,z4,q4⟩:=zF xF 4 (by omega)
      obtain ⟨v5,z5,q5⟩:=zF xF 5 (by omega)
      obtain ⟨v6,z6,q6⟩:=zF xF 6 (by omega)
      obtain ⟨v7,z7,q7⟩:=zF xF 7 (by omega)
      obtain ⟨v8,z8,q8⟩:=zF xF 8 (by omega)
      simp only [Nat.zero_add] at z0 q0 z1 q1 z2 q2 z3 q3 z4 q4 z5 q5 z6 q6 z7 q7 z8 q8
      clear xF
      go_wp2_with fail
      try simp (config:={ zetaDelta:=true }) only [Exit.noGoto_ret]
      change bodyPost _ _ _ _ _ (hR.setCells (w.heap.size + 1 + 1) 0 [H (next + 1),.slice aq ll.length cq,H next,H s,H (tk pr),H lf,H li,yk L,.slice av ts.length cv])
      generalize hR.setCells (w.heap.size + 1 + 1) 0 [H (next + 1),.slice aq ll.length cq,H next,H s,H (tk pr),H lf,H li,yk L,.slice av ts.length cv] = WE at um ⊢
      obtain ⟨d0,d1,d2,d3,d4,d5,d6,d7,d8⟩:=yE (U um).1
      try simp only [Exit.inBlock,Exit.then]
      refine bodyPost_ret (by simp [results,Tryz.results112,go_sem,d0,d1,d2,d3,d4,d5,d6,d7,d8]; try rfl) rfl ?_
      rw [U ax]
      exact ⟨_,_,rfl,(U um).2.1,(U um).2.2.1,(U um).2.2.2⟩
     ·have HFO:Hid (aU ll (othS s) = some x):=by show _ = _; have:=U HFO; simpa using this
      go_wp2_with fail
      refine (meets_any ⟨kk,s,ty,li,O,ii,pr,L⟩ x hR).mono ?_
      rintro e w5 ⟨rfl,qp⟩
      have HM5:=Y (dv (U vC) qp)
      have kt:=Y (zk (U kf) (zC qp (U vC).le))
      obtain ⟨s0,s1,s2,s3,s4,s5⟩:=zz (zb (U HRG) qp hplt)
      simp only [Nat.zero_add] at s0 s1 s2 s3 s4 s5
      clear o0 o1 o2 o3 o4 o5 p0 p1 p2 p3 p4 p5 qp
      cases hme:aZ ⟨kk,s,ty,li,O,ii,pr,L⟩ x
      ·have ax:Hid (hb = (ll,lf,ts)):=mi_stop (U hI) (U HFO) hme
       clear s0 s1 s2 s3 s4 s5 hme
       have xF:w5.there (w.heap.size + 1 + 1) 0 9:=fun j K=>by
        have F:=(U kt).block (w.heap.size + 1 + 1) (by have:=U kC; omega) (by have:=U kC; have:=U HMB; omega)
        have:=(U HX).2.2 j K
        rw [yQ (a:=(J (w.heap.size + 1 + 1) (0 + j))) F,World.frozen?_of_block (a:=(J (w.heap.size + 1 + 1) (0 + j))) F]
        exact this
       have um:=Y (match_end (U HM5) (U kt) (U xV) (U kC) (U HMB) [H (next + 1),.slice aq ll.length cq,H next,H s,H (tk pr),H lf,H li,yk L,.slice av ts.length cv] rfl xF)
       have c0:=(U HM5).cells 0 _ rfl
       have c1:=(U HM5).cells 1 _ rfl
       have c2:=(U HM5).cells 2 _ rfl
       have c3:=(U HM5).cells 3 _ rfl
       have c4:=(U HM5).cells 4 _ rfl
       have c5:=(U HM5).cells 5 _ rfl
       have c6:=(U HM5).cells 6 _ rfl
       have c7:=(U HM5).cells 7 _ rfl
       have c8:=(U HM5).cells 8 _ rfl
       simp only [Nat.zero_add] at c0 c1 c2 c3 c4 c5 c6 c7 c8
       obtain ⟨v0,z0,q0⟩:=zF xF 0 (by omega)
       obtain ⟨v1,z1,q1⟩:=zF xF 1 (by omega)
       obtain ⟨v2,z2,q2⟩:=zF xF 2 (by omega)
       obtain ⟨v3,z3,q3⟩:=zF xF 3 (by omega)
       obtain ⟨v4,z4,q4⟩:=zF xF 4 (by omega)
       obtain ⟨v5,z5,q5⟩:=zF xF 5 (by omega)
       obtain ⟨v6,z6,q6⟩:=zF xF 6 (by omega)
       obtain ⟨v7,z7,q7⟩:=zF xF 7 (by omega)
       obtain ⟨v8,z8,q8⟩:=zF xF 8 (by omega)
       simp only [Nat.zero_add] at z0 q0 z1 q1 z2 q2 z3 q3 z4 q4 z5 q5 z6 q6 z7 q7 z8 q8
       clear xF
       go_wp2_with fail
       try simp (config:={ zetaDelta:=true }) only [Exit.noGoto_ret]
       change bodyPost _ _ _ _ _ (w5.setCells (w.heap.size + 1 + 1) 0 [H (next + 1),.slice aq ll.length cq,H next,H s,H (tk pr),H lf,H li,yk L,.slice av ts.length cv])
       generalize w5.setCells (w.heap.size + 1 + 1) 0 [H (next + 1),.slice aq ll.length cq,H next,H s,H (tk pr),H lf,H li,yk L,.slice av ts.length cv] = WE at um ⊢
       obtain ⟨d0,d1,d2,d3,d4,d5,d6,d7,d8⟩:=yE (U um).1
       try simp only [Exit.inBlock,Exit.then]
       refine bodyPost_ret (by simp [results,Tryz.results112,go_sem,d0,d1,d2,d3,d4,d5,d6,d7,d8]; try rfl) rfl ?_
       rw [U ax]
       exact ⟨_,_,rfl,(U um).2.1,(U um).2.2.1,(U um).2.2.2⟩
      ·obtain ⟨k,jX,pR,hI6,hms⟩:=mi_step (U hI) pu (U HFO) hme
       have hxm:=(U kM).left x (yO pR)
       have uK:Hid (_∧_∧_∧_):=⟨jX,pR,hI6,hms⟩
       have hl1:=(U hI).l1
       have kX:=(U kM).len
       have hfew:=(U hI).few
       have uI:Hid (0 ≤ lf∧lf ≤ 1000000∧0 ≤ x.left∧x.left ≤ 1000000∧ll.length ≤ 1000∧ts.length ≤ 1000):=⟨by omega,by omega,by omega,by omega,by omega,by omega⟩
       clear jX pR hI6 hms hme hxm hl1 kX hfew
       go_wp2_with fail
       refine (trade_any mb W3.heap.size (next + 1) _ ll ⟨next,s,tk pr,lf,li,L⟩ _ ts x k w5 (U HM5) (U uK).1 (U uK).2.1 (U uI).2.2.2.2.1 (U uI).2.2.2.2.2 (U uI).1 (U uI).2.1 (U uI).2.2.1 (U uI).2.2.2.1 _ rfl).mono ?_
       rintro e w6 ⟨vw,vt',rfl,hM6,hK6⟩
       have HM6:=Y hM6
       have az:=Y hK6
       clear hM6 hK6 s0 s1 s2 s3 s4 s5
       go_wp2_with fail
       dsimp only [H,I,J]
       go_roundw
       case rel=>exact ⟨vw,_,_,vt',_,U HM6,(U uK).2.2.1,zk (U kt) (U az)⟩
       case measure =>
        rw [meas_eq (U HM6),meas_eq (U hM)]
        have:=(U uK).2.2.2
        simp only [if_pos pu]
        exact this
    ·rintro xx xm hR i op ⟨f,rfl,xk,hD⟩ xo hx Z xy Q
     have n12':i ≠ 10→i < 12→¬ xx[12]? = some true:=fun xB xJ qF=>by
      have uX:=yf xo 12 rfl qF 11 rfl
      have h9:=yf xo 12 rfl qF 9 rfl
      have h8:=yf xo 9 rfl h9 8 rfl
      have h7:=yf xo 8 rfl h8 7 rfl
      have h6:=yf xo 7 rfl h7 6 rfl
      have h5:=yf xo 6 rfl h6 5 rfl
      have G:=yf xo 5 rfl h5 1 rfl
      have h4:=yf xo 5 rfl h5 4 rfl
      have h0:=yf xo 1 rfl G 0 rfl
      have h3:=yf xo 4 rfl h4 3 rfl
      have E:=yf xo 3 rfl h3 2 rfl
      have uj:∀ j,j ≠ 10→j < 12→xx[j]? = some true:=fun j jj K=>by
       rcases (by omega:j = 0 ∨ j = 1 ∨ j = 2 ∨ j = 3 ∨ j = 4 ∨ j = 5 ∨ j = 6 ∨ j = 7 ∨ j = 8 ∨ j = 9 ∨ j = 11) with rfl | rfl | rfl | rfl | rfl | rfl | rfl | rfl | rfl | rfl | rfl <;> assumption
      rw [uj i xB xJ] at xy; cases xy
     clear xo y5
     have ux:=Y xk
     have HD:=Y hD
     have jH:=Y (zn (U HRW) xk qt)
     have z0:=zb (U hM).cells xk (U hM).lt 0 _ rfl
     have z1:=zb (U hM).cells xk (U hM).lt 1 _ rfl
     have o0:=zb (U pE) xk hl3 0 _ rfl
     rw [Nat.zero_add] at z0 z1 o0
     match i,Z with
    | 0,Z =>
     obtain rfl:=ya Z
     clear Q hD xk
     rw [if_pos (by rfl)];unfold Oper.wp;go_simp
     exact ⟨upd f 0 (I mb 0),by simp [upd],zf (U ux) (U HD) (by decide) rfl⟩
    | 1,Z =>
     obtain rfl:=ya Z
     have g:f 0 = I mb 0:=hD 0 (ye Q 0 rfl)
     clear Q hD xk
     rw [if_pos (by rfl)];unfold Oper.wp;go_simp
     exact ⟨upd f 1 (.agg #[H (next + 1),.slice aq ll.length cq]),by simp [upd,g],zf (U ux) (U HD) (by decide) rfl⟩
    | 2,Z =>
     obtain rfl:=ya Z
     clear Q hD xk
     rw [if_pos (by rfl)];unfold Oper.wp;go_simp
     exact ⟨upd f 2 (I (w.heap.size + 1) 0),by simp [upd],zf (U ux) (U HD) (by decide) rfl⟩
    | 3,Z =>
     obtain rfl:=ya Z
     have g:f 2 = I (w.heap.size + 1) 0:=hD 2 (ye Q 2 rfl)
     clear Q hD xk
     rw [if_pos (by rfl)];unfold Oper.wp;go_simp
     exact ⟨upd f 3 (H s),by simp [upd,g],zf (U ux) (U HD) (by decide) rfl⟩
    | 4,Z =>
     obtain rfl:=ya Z
     have g:f 3 = H s:=hD 3 (ye Q 3 rfl)
     clear Q hD xk
     rw [if_pos (by rfl)];unfold Oper.wp;go_simp
     refine (otherSide_any s hR).mono ?_
     rw [U HSD]
     rintro e w4 ⟨rfl,rfl⟩
     exact ⟨upd f 4 (H sd),by simp [upd,g],zf (U ux) (U HD) (by decide) rfl⟩
    | 5,Z =>
     obtain rfl:=ya Z
     have g1:f 1 = .agg #[H (next + 1),.slice aq ll.length cq]:=hD 1 (ye Q 1 rfl)
     have g4:f 4 = H sd:=hD 4 (ye Q 4 rfl)
     have ai:=n12' (by omega) (by omega)
     clear Q hD xk
     rw [if_pos (by rfl)];unfold Oper.wp;go_simp
     by_cases uD:sd = 1
     ·subst uD
      refine (sideOf_buy (next + 1) _ ll hR (U jH) (U kM).len (U HLB)).mono ?_
      rintro e w4 ⟨b,rfl,ht,kl,xC⟩
      exact ⟨upd f 5 (ch b),by simp [upd,g1,g4],bh (U ux) (U HD) xC (by decide) (dq_grow ai xC) (fun _=>.inl ⟨rfl,b,rfl,ht⟩)⟩
     ·refine (sideOf_sell (next + 1) sd uD _ ll hR (U jH) (U kM).len (U HLB)).mono ?_
      rintro e w4 ⟨b,rfl,ht,kl,xC⟩
      exact ⟨upd f 5 (cj b),by simp [upd,g1,g4],bh (U ux) (U HD) xC (by decide) (dq_grow ai xC) (fun _=>.inr ⟨uD,b,rfl,ht⟩)⟩
    | 6,Z =>
     obtain rfl:=ya Z
     have ai:=n12' (by omega) (by omega)
     rcases hD 5 (ye Q 5 rfl) ai with ⟨uD,b,g5,ht⟩ | ⟨uD,b,g5,ht⟩
     ·subst uD
      have HT:=Y ht
      have hfl:=field0_bm b hR
      clear Q hD xk ht
      rw [if_pos (by rfl)];unfold Oper.wp;go_simp
      exact ⟨upd f 6 (.func (.func 122) #[I b 0] #[]),by simp [upd,g5],zf (U ux) (U HD) (by decide) (fun _=>.inl ⟨rfl,b,rfl,U HT⟩)⟩
     ·have HT:=Y ht
      have hfl:=field0_sm b hR
      clear Q hD xk ht
      rw [if_pos (by rfl)];unfold Oper.wp;go_simp
      exact ⟨upd f 6 (.func (.func 126) #[I b 0] #[]),by simp [upd,g5],zf (U ux) (U HD) (by decide) (fun _=>.inr ⟨uD,b,rfl,U HT⟩)⟩
    | 7,Z =>
     obtain rfl:=ya Z
     have ai:=n12' (by omega) (by omega)
     rcases hD 6 (ye Q 6 rfl) ai with ⟨uD,b,g6,ht⟩ | ⟨uD,b,g6,ht⟩
     ·subst uD
      have HT:=Y ht
      have HE:Hid (frOf (quOf true (zx ll 1)) = .tuple #[.agg (yv x.id x.side x.ticks x.left x.life x.tag).toArray,.bool fb]):=by
       show _ = _
       have:=U HFR
       simpa using this
      clear Q hD xk ht
      rw [if_pos (by rfl)];unfold Oper.wp;go_simp
      refine (front_b b 1 (zx ll 1) hR (U HT) (yN (List.length_filter_le _ _) (U kM).len)).mono ?_
      rw [U HE]
      rintro e w4 ⟨rfl,xC⟩
      exact ⟨upd f 7 (.tuple #[.agg (yv x.id x.side x.ticks x.left x.life x.tag).toArray,.bool fb]),by simp [upd,g6],bh (U ux) (U HD) xC (by decide) (dq_grow ai xC) rfl⟩
     ·have HT:=Y ht
      have HE:Hid (frOf (quOf false (zx ll sd)) = .tuple #[.agg (yv x.id x.side x.ticks x.left x.life x.tag).toArray,.bool fb]):=by
       have:=U HFR
       rw [decide_eq_false uD] at this
       exact this
      clear Q hD xk ht
      rw [if_pos (by rfl)];unfold Oper.wp;go_simp
      refine (front_s b sd (zx ll sd) hR (U HT) (yN (List.length_filter_le _ _) (U kM).len)).mono ?_
      rw [U HE]
      rintro e w4 ⟨rfl,xC⟩
      exact ⟨upd f 7 (.tuple #[.agg (yv x.id x.side x.ticks x.left x.life x.tag).toArray,.bool fb]),by simp [upd,g6],bh (U ux) (U HD) xC (by decide) (dq_grow ai xC) rfl⟩
    | 8,Z =>
     obtain rfl:=ya Z
     have g:f 7 = .tuple #[.agg (yv x.id x.side x.ticks x.left x.life x.tag).toArray,.bool fb]:=hD 7 (ye Q 7 rfl)
     clear Q hD xk
     rw [if_pos (by rfl)];unfold Oper.wp;go_simp
     exact ⟨upd f 8 (.tuple #[.agg (yv x.id x.side x.ticks x.left x.life x.tag).toArray,.bool fb]),by simp [upd,g],zf (U ux) (U HD) (by decide) rfl⟩
    | 9,Z =>
     obtain rfl:=ya Z
     have g:f 8 = .tuple #[.agg (yv x.id x.side x.ticks x.left x.life x.tag).toArray,.bool fb]:=hD 8 (ye Q 8 rfl)
     clear Q hD xk
     rw [if_pos (by rfl)];unfold Oper.wp;go_simp
     exact ⟨upd f 9 (.agg (yv x.id x.side x.ticks x.left x.life x.tag).toArray),by simp [upd,g],zf (U ux) (U HD) (by decide) rfl⟩
    | 10,Z =>
     obtain rfl:=ya Z
     have g:f 8 = .tuple #[.agg (yv x.id x.side x.ticks x.left x.life x.tag).toArray,.bool fb]:=hD 8 (ye Q 8 rfl)
     clear Q hD xk
     rw [if_pos (by rfl)];unfold Oper.wp;go_simp
     exact ⟨upd f 10 (.bool fb),by simp [upd,g],zf (U ux) (U HD) (by decide) rfl⟩
    | 11,Z =>
     obtain rfl:=ya Z
     have ai:=n12' (by omega) (by omega)
     clear Q hD xk
     rw [if_pos (by rfl)];unfold Oper.wp;go_simp
     have xC:=eD hR (eF (yv 0 0 0 0 0 ⟨#[]⟩).toArray 49)
     exact ⟨upd f 11 (yp hR 0),by simp [upd],bh (U ux) (U HD) xC (by decide) (dq_grow ai xC) ⟨hR.heap.size,rfl,(U ux).size,fun _=>⟨zv hR (yv 0 0 0 0 0 ⟨#[]⟩) _,by rw [zh]; omega⟩,fun h=>absurd h ai⟩⟩
    | 12,Z =>
     obtain rfl:=ya Z
     have ai:¬ xx[12]? = some true:=by rw [xy]; simp
     have g9:f 9 = .agg (yv x.id x.side x.ticks x.left x.life x.tag).toArray:=hD 9 (ye Q 9 rfl)
     obtain ⟨pb,vF,hpb,xF,-⟩:=hD 11 (ye Q 11 rfl)
     obtain ⟨xF,hplt⟩:=xF ai
     have jI:=Y xF
     obtain ⟨u0,y0,q0⟩:=zF xF 0 (by omega)
     obtain ⟨u1,y1,q1⟩:=zF xF 1 (by omega)
     obtain ⟨u2,y2,q2⟩:=zF xF 2 (by omega)
     obtain ⟨u3,y3,q3⟩:=zF xF 3 (by omega)
     obtain ⟨u4,y4,q4⟩:=zF xF 4 (by omega)
     obtain ⟨u5,y5,q5⟩:=zF xF 5 (by omega)
     simp only [Nat.zero_add] at y0 q0 y1 q1 y2 q2 y3 q3 y4 q4 y5 q5
     clear Q hD xk xF
     rw [if_pos (by rfl)];unfold Oper.wp;go_simp
     refine ⟨upd f 12 M,by simp [upd,g9,vF],rgx_last (zo pb hpb (yv x.id x.side x.ticks x.left x.life x.tag) 0 hR (U ux)) (U HD) xy (fun j K hxj h=>dq_last j K h (fun hj11=>?_)) trivial⟩
     subst hj11
     refine ⟨pb,vF,hpb,fun h=>absurd trivial h,fun _=>⟨?_,?_⟩⟩
     ·exact yX hR pb 0 (yv x.id x.side x.ticks x.left x.life x.tag) (fun j K=>U jI j K)
     ·show pb < (hR.setCells pb 0 (yv x.id x.side x.ticks x.left x.life x.tag)).heap.size
      simp only [World.setCells,World.setCell,Array.size_modify]; exact hplt
    | 13,Z =>
     obtain rfl:=ya Z
     have g:f 10 = .bool fb:=hD 10 (ye Q 10 rfl)
     clear Q hD xk
     rw [if_pos (by rfl)];unfold Oper.wp;go_simp
     exact ⟨upd f 13 (.bool fb),by simp [upd,g],zf (U ux) (U HD) (by decide) rfl⟩
    | i + 14,Z=>simp at Z
   ·have ax:Hid (hb = (ll,lf,ts)):=mi_done (U hI) pu
    have xF:wr.there (w.heap.size + 1 + 1) 0 9:=fun j K=>by
     have F:=(U hK).block (w.heap.size + 1 + 1) (by have:=U kC; omega) (by have:=U kC; have:=U HMB; omega)
     have:=(U HX).2.2 j K
     rw [yQ (a:=(J (w.heap.size + 1 + 1) (0 + j))) F,World.frozen?_of_block (a:=(J (w.heap.size + 1 + 1) (0 + j))) F]
     exact this
    have um:=Y (match_end (U hM) (U hK) (U xV) (U kC) (U HMB) [H (next + 1),.slice aq ll.length cq,H next,H s,H (tk pr),H lf,H li,yk L,.slice av ts.length cv] rfl xF)
    have c0:=(U hM).cells 0 _ rfl
    have c1:=(U hM).cells 1 _ rfl
    have c2:=(U hM).cells 2 _ rfl
    have c3:=(U hM).cells 3 _ rfl
    have c4:=(U hM).cells 4 _ rfl
    have c5:=(U hM).cells 5 _ rfl
    have c6:=(U hM).cells 6 _ rfl
    have c7:=(U hM).cells 7 _ rfl
    have c8:=(U hM).cells 8 _ rfl
    simp only [Nat.zero_add] at c0 c1 c2 c3 c4 c5 c6 c7 c8
    obtain ⟨v0,z0,q0⟩:=zF xF 0 (by omega)
    obtain ⟨v1,z1,q1⟩:=zF xF 1 (by omega)
    obtain ⟨v2,z2,q2⟩:=zF xF 2 (by omega)
    obtain ⟨v3,z3,q3⟩:=zF xF 3 (by omega)
    obtain ⟨v4,z4,q4⟩:=zF xF 4 (by omega)
    obtain ⟨v5,z5,q5⟩:=zF xF 5 (by omega)
    obtain ⟨v6,z6,q6⟩:=zF xF 6 (by omega)
    obtain ⟨v7,z7,q7⟩:=zF xF 7 (by omega)
    obtain ⟨v8,z8,q8⟩:=zF xF 8 (by omega)
    simp only [Nat.zero_add] at z0 q0 z1 q1 z2 q2 z3 q3 z4 q4 z5 q5 z6 q6 z7 q7 z8 q8
    clear xF
    go_wp2_with fail
    try simp (config:={ zetaDelta:=true }) only [Exit.noGoto_ret]
    change bodyPost _ _ _ _ _ (wr.setCells (w.heap.size + 1 + 1) 0 [H (next + 1),.slice aq ll.length cq,H next,H s,H (tk pr),H lf,H li,yk L,.slice av ts.length cv])
    generalize wr.setCells (w.heap.size + 1 + 1) 0 [H (next + 1),.slice aq ll.length cq,H next,H s,H (tk pr),H lf,H li,yk L,.slice av ts.length cv] = WE at um ⊢
    obtain ⟨d0,d1,d2,d3,d4,d5,d6,d7,d8⟩:=yE (U um).1
    try simp only [Exit.inBlock,Exit.then]
    refine bodyPost_ret (by simp [results,Tryz.results112,go_sem,d0,d1,d2,d3,d4,d5,d6,d7,d8]; try rfl) rfl ?_
    rw [U ax]
    exact ⟨_,_,rfl,(U um).2.1,(U um).2.2.1,(U um).2.2.2⟩
 ·rintro x xm V i op ⟨f,rfl,xk,hD⟩ xo hx Z xy Q
  have n8':i < 8→¬ x[8]? = some true:=fun xJ h8=>by
   have h7:=yf xo 8 rfl h8 7 rfl
   have h6:=yf xo 8 rfl h8 6 rfl
   have h5:=yf xo 6 rfl h6 5 rfl
   have G:=yf xo 6 rfl h6 1 rfl
   have h0:=yf xo 1 rfl G 0 rfl
   have E:=yf xo 5 rfl h5 2 rfl
   have h4:=yf xo 5 rfl h5 4 rfl
   have h3:=yf xo 4 rfl h4 3 rfl
   have uj:∀ j,j < 8→x[j]? = some true:=fun j K=>by
    rcases (by omega:j = 0 ∨ j = 1 ∨ j = 2 ∨ j = 3 ∨ j = 4 ∨ j = 5 ∨ j = 6 ∨ j = 7) with rfl | rfl | rfl | rfl | rfl | rfl | rfl | rfl <;> assumption
   rw [uj i xJ] at xy; cases xy
  clear xo
  have xv:=Y xk
  have HD:=Y hD
  have jl:=Y (zn (U HR3) xk qt)
  have z0:=zb (U HX).1 xk (by omega) 0 _ rfl
  have z1:=zb (U HX).1 xk (by omega) 1 _ rfl
  have o0:=zb (U HX).2.1 xk (by omega) 0 _ rfl
  have o1:=zb (U HX).2.1 xk (by omega) 1 _ rfl
  have o2:=zb (U HX).2.1 xk (by omega) 2 _ rfl
  have o3:=zb (U HX).2.1 xk (by omega) 3 _ rfl
  have o4:=zb (U HX).2.1 xk (by omega) 4 _ rfl
  have o5:=zb (U HX).2.1 xk (by omega) 5 _ rfl
  rw [Nat.zero_add] at z0 z1 o0 o1 o2 o3 o4 o5
  clear hw3
  match i,Z with
  | 0,Z =>
   obtain rfl:=ya Z
   clear Q hD xk
   rw [if_pos (by rfl)];unfold Oper.wp;go_simp
   exact ⟨upd f 0 (.agg #[H next,.slice a l.length A]),by simp [upd],zf (U xv) (U HD) (by decide) rfl⟩
  | 1,Z =>
   obtain rfl:=ya Z
   have g:f 0 = .agg #[H next,.slice a l.length A]:=hD 0 (ye Q 0 rfl)
   have n8:=n8' (by omega)
   clear Q hD xk
   rw [if_pos (by rfl)];unfold Oper.wp;go_simp
   refine (copyBook_any next _ l V (U jl) hsl (by omega)).mono ?_
   rintro e w4 ⟨v4,rfl,aK,xC⟩
   obtain ⟨a4,c4,rfl⟩:=rd_lenF (zN aK (by omega))
   exact ⟨upd f 1 (.agg #[H next,.slice a4 l.length c4]),by simp [upd,g],bh (U xv) (U HD) xC (by decide) (dm_grow n8 xC) ⟨a4,c4,rfl,fun _=>cA aK (U xv).size⟩⟩
  | 2,Z =>
   obtain rfl:=ya Z
   clear Q hD xk
   rw [if_pos (by rfl)];unfold Oper.wp;go_simp
   exact ⟨upd f 2 (.agg #[H s,H ty,H li,H O,yj pr,yk L]),by simp [upd],zf (U xv) (U HD) (by decide) rfl⟩
  | 3,Z =>
   obtain rfl:=ya Z
   clear Q hD xk
   rw [if_pos (by rfl)];unfold Oper.wp;go_simp
   exact ⟨upd f 3 (yp w 0),by simp [upd],zf (U xv) (U HD) (by decide) rfl⟩
  | 4,Z =>
   obtain rfl:=ya Z
   have g:f 3 = yp w 0:=hD 3 (ye Q 3 rfl)
   clear Q hD xk
   rw [if_pos (by rfl)];unfold Oper.wp;go_simp
   exact ⟨upd f 4 (H next),by simp [upd,g],zf (U xv) (U HD) (by decide) rfl⟩
  | 5,Z =>
   obtain rfl:=ya Z
   have g2:f 2 = .agg #[H s,H ty,H li,H O,yj pr,yk L]:=hD 2 (ye Q 2 rfl)
   have g4:f 4 = H next:=hD 4 (ye Q 4 rfl)
   have n8:=n8' (by omega)
   clear Q hD xk
   rw [if_pos (by rfl)];unfold Oper.wp;go_simp
   refine (order_any ⟨kk,s,ty,li,O,ii,pr,L⟩ next V).mono ?_
   rintro e w4 ⟨rfl,xC⟩
   exact ⟨upd f 5 (.agg (yv next s (tk pr) O li L).toArray),by simp [upd,g2,g4],bh (U xv) (U HD) xC (by decide) (dm_grow n8 xC) rfl⟩
  | 6,Z =>
   obtain rfl:=ya Z
   obtain ⟨a4,c4,g1,vu⟩:=hD 1 (ye Q 1 rfl)
   have g5:f 5 = .agg (yv next s (tk pr) O li L).toArray:=hD 5 (ye Q 5 rfl)
   have vp:=Y vu
   clear Q hD xk vu
   rw [if_pos (by rfl)];unfold Oper.wp;go_simp
   exact ⟨upd f 6 (.agg #[H next,.slice a4 l.length c4,H next,H s,H (tk pr),H O,H li,yk L,.slice none 0 0]),by simp [upd,g1,g5],zf (U xv) (U HD) (by decide) ⟨a4,c4,rfl,U vp⟩⟩
  | 7,Z =>
   obtain rfl:=ya Z
   have n8:=n8' (by omega)
   clear Q hD xk
   rw [if_pos (by rfl)];unfold Oper.wp;go_simp
   have xC:=eD V (eF #[H 0,.slice none 0 0,H 0,H 0,H 0,H 0,H 0,yk ⟨#[]⟩,.slice none 0 0] 157)
   exact ⟨upd f 7 (yp V 0),by simp [upd],bh (U xv) (U HD) xC (by decide) (dm_grow n8 xC) ⟨V.heap.size,rfl,(U xv).size,fun _=>⟨zv V [H 0,.slice none 0 0,H 0,H 0,H 0,H 0,H 0,yk ⟨#[]⟩,.slice none 0 0] _,_,heap_alloc_new V _⟩,fun h=>absurd h n8⟩⟩
  | 8,Z =>
   obtain rfl:=ya Z
   have n8:¬ x[8]? = some true:=by rw [xy]; simp
   obtain ⟨a4,c4,g6,ho6⟩:=hD 6 (ye Q 6 rfl)
   obtain ⟨mb,g7,hmb,xF,-⟩:=hD 7 (ye Q 7 rfl)
   obtain ⟨xF,jg⟩:=xF n8
   have HO6:=Y (ho6 n8)
   have jI:=Y xF
   have ux:=Y jg
   obtain ⟨u0,y0,q0⟩:=zF xF 0 (by omega)
   obtain ⟨u1,y1,q1⟩:=zF xF 1 (by omega)
   obtain ⟨u2,y2,q2⟩:=zF xF 2 (by omega)
   obtain ⟨u3,y3,q3⟩:=zF xF 3 (by omega)
   obtain ⟨u4,y4,q4⟩:=zF xF 4 (by omega)
   obtain ⟨u5,y5,q5⟩:=zF xF 5 (by omega)
   obtain ⟨u6,y6,q6⟩:=zF xF 6 (by omega)
   obtain ⟨u7,y7,q7⟩:=zF xF 7 (by omega)
   obtain ⟨u8,y8,q8⟩:=zF xF 8 (by omega)
   simp only [Nat.zero_add] at y0 q0 y1 q1 y2 q2 y3 q3 y4 q4 y5 q5 y6 q6 y7 q7 y8 q8
   clear Q hD xk ho6 xF jg
   rw [if_pos (by rfl)];unfold Oper.wp;go_simp
   refine ⟨upd f 8 M,by simp [upd,g6,g7],rgx_last (zo mb hmb [H next,.slice a4 l.length c4,H next,H s,H (tk pr),H O,H li,yk L,.slice none 0 0] 0 V (U xv)) (U HD) xy (fun j K hxj h=>dm_last j K h (fun hj7=>?_)) trivial⟩
   subst hj7
   refine ⟨mb,g7,hmb,fun h=>absurd trivial h,fun _=>⟨a4,c4,?_⟩⟩
   exact matS_made (c:=⟨kk,s,ty,li,O,ii,pr,L⟩) (U jI) (U ux) (U HO6) (by have:=(U xv).size; omega)
  | i + 9,Z=>simp at Z
end Go.Proofs.YtbakanofkghmiaaGreat
