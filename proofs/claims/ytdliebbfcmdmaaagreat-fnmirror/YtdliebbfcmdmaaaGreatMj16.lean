/-
  What comes of a new order, by the program: proved by walking the function.
-/
import Derived.Test.YtdliebbfcmdmaaaGreatMj15
import Derived.WalkMore
set_option linter.unusedVariables false
set_option maxHeartbeats 6400000
set_option maxRecDepth 100000
namespace Go.Proofs.YtdliebbfcmdmaaaGreat
open Go.RowKit
theorem match_any (next:Int) (vb:Value) (l:List Od) (c:Cm) (w:World) (hr:RdR Od.vs 6 w vb l) (hs:SlOk vb) (hg:GoodL l) (h0:0 ≤ next) (Q:next ≤ 1000000) (jm:0 ≤ c.q) (jn:c.q ≤ 1000000) :
  Calls Tryz.prog 54 #[.agg #[H next,vb],noV c] w fun e w'=>∃ vq vt,e = ym (.agg #[H (next + 1),vq,H next,H c.s,H (tk c.p),H (matL c next 21 l c.q []).2.1,H c.l,yk c.g,vt])∧ORow w' w.heap.size vq (matL c next 21 l c.q []).1∧ERow w' w.heap.size vt (matL c next 21 l c.q []).2.2∧yn w w':=by
 have HR:=Y hr
 have HG:=Y hg
 have hsl:=hs
 have HMI:=Y (mi_start (c:=c) (id:=next) hg jm jn)
 have hn:=hg.len
 obtain ⟨a,A,rfl,xD,hc⟩:=hr
 generalize hF:matL c next 21 l c.q [] = qt at HMI ⊢
 clear hF hc hg hs
 obtain ⟨kk,s,X,li,F,ii,pr,O⟩:=c
 unfold noV
 simp only at *
 have xA:=ze w (E #[H next,.slice a l.length A] 31)
 have uc:((w.alloc (E #[H next,.slice a l.length A] 31)).alloc (E #[H s,H X,H li,H F,yj pr,yk O] 74)).heap.size = w.heap.size + 1 + 1:=by rw [ze,xA]
 have qG:(((w.alloc (E #[H next,.slice a l.length A] 31)).alloc (E #[H s,H X,H li,H F,yj pr,yk O] 74)).alloc (E #[H 0,.slice none 0 0,H 0,H 0,H 0,H 0,H 0,yk ⟨#[]⟩,.slice none 0 0] 105)).heap.size = w.heap.size + 1 + 1 + 1:=by rw [ze,uc]
 have r1:=zg w [H next,.slice a l.length A] 31
 have r2:=zg (w.alloc (E #[H next,.slice a l.length A] 31)) [H s,H X,H li,H F,yj pr,yk O] 74
 rw [xA] at r2
 have t3:=zu ((w.alloc (E #[H next,.slice a l.length A] 31)).alloc (E #[H s,H X,H li,H F,yj pr,yk O] 74)) [H 0,.slice none 0 0,H 0,H 0,H 0,H 0,H 0,yk ⟨#[]⟩,.slice none 0 0] 105
 rw [uc] at t3
 have xT:Hid (yn w (((w.alloc (E #[H next,.slice a l.length A] 31)).alloc (E #[H s,H X,H li,H F,yj pr,yk O] 74)).alloc (E #[H 0,.slice none 0 0,H 0,H 0,H 0,H 0,H 0,yk ⟨#[]⟩,.slice none 0 0] 105))):=((ed _ _).alloc (by rw [xA]; omega) _).alloc (by rw [uc]; omega) _
 have b23:Below (w.heap.size + 1 + 1) ((w.alloc (E #[H next,.slice a l.length A] 31)).alloc (E #[H s,H X,H li,H F,yj pr,yk O] 74)) (((w.alloc (E #[H next,.slice a l.length A] 31)).alloc (E #[H s,H X,H li,H F,yj pr,yk O] 74)).alloc (E #[H 0,.slice none 0 0,H 0,H 0,H 0,H 0,H 0,yk ⟨#[]⟩,.slice none 0 0] 105)):=(Below.refl _ _).alloc (by rw [uc]; omega) _
 have qm:Below (w.heap.size + 1) (w.alloc (E #[H next,.slice a l.length A] 31)) ((w.alloc (E #[H next,.slice a l.length A] 31)).alloc (E #[H s,H X,H li,H F,yj pr,yk O] 74)):=(Below.refl _ _).alloc (by rw [xA]; omega) _
 have HX:Hid (_∧_∧_):=⟨zb (zb r1 qm (by omega)) b23 (by omega),zb r2 b23 (by omega),t3⟩
 have kF:=Y qG
 clear xA uc qG r1 r2 t3 b23 qm
 go_enter Tryz.func54,Tryz.ntmps54
 go_wp2_with fail
 go_step3
 go_wp2_with fail
 generalize (((w.alloc (E #[H next,.slice a l.length A] 31)).alloc (E #[H s,H X,H li,H F,yj pr,yk O] 74)).alloc (E #[H 0,.slice none 0 0,H 0,H 0,H 0,H 0,H 0,yk ⟨#[]⟩,.slice none 0 0] 105)) = W3 at xT HX kF ⊢
 have HX:Hid (W3.rangeAt w.heap.size 0 [H next,.slice a l.length A]∧W3.rangeAt (w.heap.size + 1) 0 [H s,H X,H li,H F,yj pr,yk O]∧W3.there (w.heap.size + 1 + 1) 0 9):=U HX
 have hw3:W3.heap.size = w.heap.size + 1 + 1 + 1:=U kF
 have HR3:=Y (zl (U HR) (U xT) tg)
 refine zh (RG W3 (fun f=>{ tmps:=#[.agg #[H next,.slice a l.length A],.agg #[H s,H X,H li,H F,yj pr,yk O],yp w 0,I (w.heap.size + 1) 0,I (w.heap.size + 1 + 1) 0,f 7,M,M,f 0,f 1,f 2,f 3,f 4,f 5,f 6,M,M,M,M,M,M,M,M,M,M,M,M,M,M,M,M,M,M,M,M,M,M,M,M,M,M,M,M,M,M,M],defers:=[] }) 8 (DM w.heap.size W3.heap.size W3 next a A l ⟨kk,s,X,li,F,ii,pr,O⟩)) (by kernel_rfl) ?_ ?_ ?_
 ·exact ⟨fun _=>M,rfl,⟨rfl,rfl,rfl,Nat.le_refl _,fun _ _=>rfl⟩,fun j R=>by rw [yI] at R; split at R <;> simp at R⟩
 ·rintro x xm V ⟨f,rfl,xk,hD⟩ hx xP
  have xp:=zT xP hx (acyc _ (by kernel_rfl))
  have k8:x[8]? = some true:=xp 8 (by simp)
  obtain ⟨mb,g7,hmb,-,uU⟩:=hD 7 (xp 7 (by simp))
  obtain ⟨a4,c4,hM⟩:=uU k8
  have HM:=Y hM
  have xv:=Y xk
  have y0:V.cell? (J mb 0) = some (H next):=hM.cells 0 _ rfl
  have f0:V.frozen? (J mb 0) = false:=by have:=(hM.there 0 (by omega)).2; rwa [Nat.zero_add] at this
  have hwr:IntKind.i64.wrap (next + 1) = next + 1:=by rw [IntKind.wrap_i64]; omega
  dsimp only
  simp only [g7]
  generalize f 0 = e0,f 1 = e1,f 2 = e2,f 3 = e3,f 4 = e4,f 5 = e5,f 6 = e6
  clear hD xp xP hx k8 uU hM xk g7 x f
  go_wp2_with fail
  go_step3
  go_wp2_with fail
  have HMB:=Y hmb
  clear hw3 hmb y0 f0
  go_loopw [] (fun wr=>∃ vq ll lf vt ts,Hid (MatS mb W3.heap.size wr (next + 1) vq ll ⟨next,s,tk pr,lf,li,O⟩ vt ts)∧Hid (MI ⟨kk,s,X,li,F,ii,pr,O⟩ next qt ll lf ts)∧Hid (KeptBut mb W3.heap.size W3 wr)) (fun wr=>meas mb wr)
  case atStart=>exact ⟨_,l,F,_,[],matS_next (U HM) (next + 1),U HMI,zi (zz (U xv) tg) (cA V 0 _)⟩
  case round =>
   obtain ⟨vq,ll,lf,vt,ts,hM,hI,hK⟩:=hrel
   have y5:wr.cell? (J mb 5) = some (H lf):=(U hM).cells 5 _ rfl
   obtain ⟨av,cv,rfl⟩:∃ a c,vt = .slice a ts.length c:=by
    rcases (U hM).erow.2 with ⟨e,e2⟩ | ⟨g,A,xr,e,_⟩
    ·exact ⟨none,0,by rw [e,e2]⟩
    ·exact ⟨_,_,e⟩
   obtain ⟨aq,cq,rfl⟩:∃ a c,vq = .slice a ll.length c:=by
    rcases (U hM).orow.2 with ⟨e,e2⟩ | ⟨g,A,xr,e,_⟩
    ·exact ⟨none,0,by rw [e,e2]⟩
    ·exact ⟨_,_,e⟩
   by_cases oq:0 < lf
   ·have HGL:=Y (U hI).good
    have HLB:Hid (∀ o' ∈ ll,0 ≤ o'.left∧o'.left ≤ 1000000):=fun o' vC=>by have:=(U HGL).left o' vC; omega
    have HRW:=Y (zK (U hM).orow (by have:=(U HGL).len; omega))
    generalize uF:othS s = sd
    have HSD:=Y uF
    generalize hq:quOf (decide (sd = 1)) (zt ll sd) = q
    have oJ:=frOf_eq q
    generalize hx:hdO q = x at oJ
    generalize hfb:hdF q = fb at oJ
    have HFR:Hid (frOf (quOf (decide (sd = 1)) (zt ll sd)) = .tuple #[.agg (yv x.id x.side x.ticks x.left x.life x.tag).toArray,.bool fb]):=by show _ = _; rw [hq]; exact oJ
    have HFO:Hid (aJ ll (othS s) = if fb = true then some x else none):=by
     show _ = _
     rw [aJ,uF,hq,← hx,← hfb,hdO,hdF]
     cases q.head? <;> rfl
    clear uF hq oJ hx hfb q
    have qG:=U kF
    have hc3:∀ j,wr.cell? (J (w.heap.size + 1) j) = W3.cell? (J (w.heap.size + 1) j):=fun j=>yQ (a:=(J (w.heap.size + 1) j)) ((U hK).block (w.heap.size + 1) (by omega) (by have:=U HMB; omega))
    have po:Hid (wr.rangeAt (w.heap.size + 1) 0 [H s,H X,H li,H F,yj pr,yk O]):=fun j u R=>(hc3 _).trans ((U HX).2.1 j u R)
    have hl3:w.heap.size + 1 < wr.heap.size:=by have:=(U hK).size; omega
    clear hc3 qG
    go_wp2_with fail
    refine zh (RG wr (fun f=>{ tmps:=#[.agg #[H next,.slice a l.length A],.agg #[H s,H X,H li,H F,yj pr,yk O],yp w 0,I (w.heap.size + 1) 0,I (w.heap.size + 1 + 1) 0,I mb 0,f 11,f 13,e0,e1,e2,e3,e4,e5,e6,I mb 0,I mb 0,H next,H (next + 1),I mb 0,I mb 0,I mb 2,I mb 5,H lf,.bool true,f 8,f 0,f 1,f 2,f 3,f 4,f 5,f 6,f 7,f 9,f 10,u36,u37,u38,u39,u40,u41,u42,u43,u44,M],defers:=[] }) 12 (DQ mb (w.heap.size + 1) wr (.agg #[H (next + 1),.slice aq ll.length cq]) s sd ll x fb)) (by kernel_rfl) ?_ ?_ ?_
    ·exact ⟨fun j=>if j = 0 then u26 else if j = 1 then u27 else if j = 2 then u28 else if j = 3 then u29 else if j = 4 then u30 else if j = 5 then u31 else if j = 6 then u32 else if j = 7 then u33 else if j = 8 then u25 else if j = 9 then u34 else if j = 10 then u35 else if j = 11 then u6 else if j = 13 then u7 else M,rfl,⟨rfl,rfl,rfl,Nat.le_refl _,fun _ _=>rfl⟩,fun j R=>by rw [yI] at R; split at R <;> simp at R⟩
    ·rintro xx xm ty ⟨f,rfl,xk,hD⟩ hx xP
     have xp:=zP xP hx (by kernel_rfl)
     have k12:xx[12]? = some true:=xp 12 (by simp)
     have ku:f 13 = .bool fb:=hD 13 (xp 13 (by simp))
     obtain ⟨pb,vF,hpb,-,uU⟩:=hD 11 (xp 11 (by simp))
     obtain ⟨jI,hplt⟩:=uU k12
     have vD:=Y (da (U hM) xk)
     have kg:=Y (zi (U hK) (zz xk (U hM).le))
     have o0:=zb (U po) xk hl3 0 _ rfl
     have o1:=zb (U po) xk hl3 1 _ rfl
     have o2:=zb (U po) xk hl3 2 _ rfl
     have o3:=zb (U po) xk hl3 3 _ rfl
     have o4:=zb (U po) xk hl3 4 _ rfl
     have o5:=zb (U po) xk hl3 5 _ rfl
     have HRG:=Y jI
     obtain ⟨p0,p1,p2,p3,p4,p5⟩:=zC jI
     simp only [Nat.zero_add] at o0 o1 o2 o3 o4 o5 p0 p1 p2 p3 p4 p5
     dsimp only
     simp only [ku,vF]
     generalize f 0 = b0,f 1 = b1,f 2 = b2,f 3 = b3,f 4 = b4,f 5 = b5,f 6 = b6,f 7 = b7,f 8 = b8,f 9 = b9,f 10 = b10
     clear hD xp xP hx k12 uU xk vF ku jI hpb f xx y5
     cases fb
     ·have pX:Hid (qt = (ll,lf,ts)):=mi_none (U hI) (by have:=U HFO; simpa using this)
      clear o0 o1 o2 o3 o4 o5 p0 p1 p2 p3 p4 p5
      have xG:ty.there (w.heap.size + 1 + 1) 0 9:=fun j R=>by
       have L:=(U kg).block (w.heap.size + 1 + 1) (by have:=U kF; omega) (by have:=U kF; have:=U HMB; omega)
       have:=(U HX).2.2 j R
       rw [yQ (a:=(J (w.heap.size + 1 + 1) (0 + j))) L,World.frozen?_of_block (a:=(J (w.heap.size + 1 + 1) (0 + j))) L]
       exact this
      have um:=Y (match_end (U vD) (U kg) (U xT) (U kF) (U HMB) [H (next + 1),.slice aq ll.length cq,H next,H s,H (tk pr),H lf,H li,yk O,.slice av ts.length cv] rfl xG)
      have c0:=(U vD).cells 0 _ rfl
      have c1:=(U vD).cells 1 _ rfl
      have c2:=(U vD).cells 2 _ rfl
      have c3:=(U vD).cells 3 _ rfl
      have c4:=(U vD).cells 4 _ rfl
      have c5:=(U vD).cells 5 _ rfl
      have c6:=(U vD).cells 6 _ rfl
      have c7:=(U vD).cells 7 _ rfl
      have c8:=(U vD).cells 8 _ rfl
      simp only [Nat.zero_add] at c0 c1 c2 c3 c4 c5 c6 c7 c8
      obtain ⟨v0,z0,q0⟩:=zD xG 0 (by omega)
      obtain ⟨v1,z1,q1⟩:=zD xG 1 (by omega)
      obtain ⟨v2,z2,q2⟩:=zD xG 2 (by omega)
      obtain ⟨v3,z3,q3⟩:=zD xG 3 (by omega)
      obtain ⟨v4,z4,q4⟩:=zD xG 4 (by omega)
      obtain ⟨v5,z5,q5⟩:=zD xG 5 (by omega)
      obtain ⟨v6,z6,q6⟩:=zD xG 6 (by omega)
      obtain ⟨v7,z7,q7⟩:=zD xG 7 (by omega)
      obtain ⟨v8,z8,q8⟩:=zD xG 8 (by omega)
      simp only [Nat.zero_add] at z0 q0 z1 q1 z2 q2 z3 q3 z4 q4 z5 q5 z6 q6 z7 q7 z8 q8
      clear xG
      go_wp2_with fail
      try simp (config:={ zetaDelta:=true }) only [Exit.noGoto_ret]
      change bodyPost _ _ _ _ _ (ty.setCells (w.heap.size + 1 + 1) 0 [H (next + 1),.slice aq ll.length cq,H next,H s,H (tk pr),H lf,H li,yk O,.slice av ts.length cv])
      generalize ty.setCells (w.heap.size + 1 + 1) 0 [H (next + 1),.slice aq ll.length cq,H next,H s,H (tk pr),H lf,H li,yk O,.slice av ts.length cv] = WE at um ⊢
      obtain ⟨d0,d1,d2,d3,d4,d5,d6,d7,d8⟩:=yE (U um).1
      try simp only [Exit.inBlock,Exit.then]
      refine bodyPost_ret (by simp [results,Tryz.results54,go_sem,d0,d1,d2,d3,d4,d5,d6,d7,d8]; try rfl) rfl ?_
      rw [U pX]
      exact ⟨_,_,rfl,(U um).2.1,(U um).2.2.1,(U um).2.2.2⟩
     ·have HFO:Hid (aJ ll (othS s) = some x):=by show _ = _; have:=U HFO; simpa using this
      go_wp2_with fail
      refine (meets_any ⟨kk,s,X,li,F,ii,pr,O⟩ x ty).mono ?_
      rintro e w5 ⟨rfl,qj⟩
      have HM5:=Y (da (U vD) qj)
      have kq:=Y (zi (U kg) (zz qj (U vD).le))
      obtain ⟨s0,s1,s2,s3,s4,s5⟩:=zC (zb (U HRG) qj hplt)
      simp only [Nat.zero_add] at s0 s1 s2 s3 s4 s5
      clear o0 o1 o2 o3 o4 o5 p0 p1 p2 p3 p4 p5 qj
      cases hme:aO ⟨kk,s,X,li,F,ii,pr,O⟩ x
      ·have pX:Hid (qt = (ll,lf,ts)):=mi_stop (U hI) (U HFO) hme
       clear s0 s1 s2 s3 s4 s5 hme
       have xG:w5.there (w.heap.size + 1 + 1) 0 9:=fun j R=>by
        have L:=(U kq).block (w.heap.size + 1 + 1) (by have:=U kF; omega) (by have:=U kF; have:=U HMB; omega)
        have:=(U HX).2.2 j R
        rw [yQ (a:=(J (w.heap.size + 1 + 1) (0 + j))) L,World.frozen?_of_block (a:=(J (w.heap.size + 1 + 1) (0 + j))) L]
        exact this
       have um:=Y (match_end (U HM5) (U kq) (U xT) (U kF) (U HMB) [H (next + 1),.slice aq ll.length cq,H next,H s,H (tk pr),H lf,H li,yk O,.slice av ts.length cv] rfl xG)
       have c0:=(U HM5).cells 0 _ rfl
       have c1:=(U HM5).cells 1 _ rfl
       have c2:=(U HM5).cells 2 _ rfl
       have c3:=(U HM5).cells 3 _ rfl
       have c4:=(U HM5).cells 4 _ rfl
       have c5:=(U HM5).cells 5 _ rfl
       have c6:=(U HM5).cells 6 _ rfl
       have c7:=(U HM5).cells 7 _ rfl
       have c8:=(U HM5).cells 8 _ rfl
       simp only [Nat.zero_add] at c0 c1 c2 c3 c4 c5 c6 c7 c8
       obtain ⟨v0,z0,q0⟩:=zD xG 0 (by omega)
       obtain ⟨v1,z1,q1⟩:=zD xG 1 (by omega)
       obtain ⟨v2,z2,q2⟩:=zD xG 2 (by omega)
       obtain ⟨v3,z3,q3⟩:=zD xG 3 (by omega)
       obtain ⟨v4,z4,q4⟩:=zD xG 4 (by omega)
       obtain ⟨v5,z5,q5⟩:=zD xG 5 (by omega)
       obtain ⟨v6,z6,q6⟩:=zD xG 6 (by omega)
       obtain ⟨v7,z7,q7⟩:=zD xG 7 (by omega)
       obtain ⟨v8,z8,q8⟩:=zD xG 8 (by omega)
       simp only [Nat.zero_add] at z0 q0 z1 q1 z2 q2 z3 q3 z4 q4 z5 q5 z6 q6 z7 q7 z8 q8
       clear xG
       go_wp2_with fail
       try simp (config:={ zetaDelta:=true }) only [Exit.noGoto_ret]
       change bodyPost _ _ _ _ _ (w5.setCells (w.heap.size + 1 + 1) 0 [H (next + 1),.slice aq ll.length cq,H next,H s,H (tk pr),H lf,H li,yk O,.slice av ts.length cv])
       generalize w5.setCells (w.heap.size + 1 + 1) 0 [H (next + 1),.slice aq ll.length cq,H next,H s,H (tk pr),H lf,H li,yk O,.slice av ts.length cv] = WE at um ⊢
       obtain ⟨d0,d1,d2,d3,d4,d5,d6,d7,d8⟩:=yE (U um).1
       try simp only [Exit.inBlock,Exit.then]
       refine bodyPost_ret (by simp [results,Tryz.results54,go_sem,d0,d1,d2,d3,d4,d5,d6,d7,d8]; try rfl) rfl ?_
       rw [U pX]
       exact ⟨_,_,rfl,(U um).2.1,(U um).2.2.1,(U um).2.2.2⟩
      ·obtain ⟨k,jZ,pF,hI6,hms⟩:=mi_step (U hI) oq (U HFO) hme
       have hxm:=(U HGL).left x (yO pF)
       have uI:Hid (_∧_∧_∧_):=⟨jZ,pF,hI6,hms⟩
       have hl1:=(U hI).l1
       have oM:=(U HGL).len
       have hfew:=(U hI).few
       have uG:Hid (0 ≤ lf∧lf ≤ 1000000∧0 ≤ x.left∧x.left ≤ 1000000∧ll.length ≤ 1000∧ts.length ≤ 1000):=⟨by omega,by omega,by omega,by omega,by omega,by omega⟩
       clear jZ pF hI6 hms hme hxm hl1 oM hfew
       go_wp2_with fail
       refine (trade_any mb W3.heap.size (next + 1) _ ll ⟨next,s,tk pr,lf,li,O⟩ _ ts x k w5 (U HM5) (U uI).1 (U uI).2.1 (U uG).2.2.2.2.1 (U uG).2.2.2.2.2 (U uG).1 (U uG).2.1 (U uG).2.2.1 (U uG).2.2.2.1 _ rfl).mono ?_
       rintro e w6 ⟨vw,vt',rfl,hM6,hK6⟩
       have HM6:=Y hM6
       have pZ:=Y hK6
       clear hM6 hK6 s0 s1 s2 s3 s4 s5
       go_wp2_with fail
       dsimp only [H,I,J]
       go_roundw
       case rel=>exact ⟨vw,_,_,vt',_,U HM6,(U uI).2.2.1,zi (U kq) (U pZ)⟩
       case measure =>
        rw [meas_eq (U HM6),meas_eq (U hM)]
        have:=(U uI).2.2.2
        simp only [if_pos oq]
        exact this
    ·rintro xx xm ty i op ⟨f,rfl,xk,hD⟩ xo hx Z xy D
     have n12':i ≠ 10→i < 12→¬ xx[12]? = some true:=fun xB xK qy=>by
      have uX:=yf xo 12 rfl qy 11 rfl
      have h9:=yf xo 12 rfl qy 9 rfl
      have h8:=yf xo 9 rfl h9 8 rfl
      have h7:=yf xo 8 rfl h8 7 rfl
      have h6:=yf xo 7 rfl h7 6 rfl
      have h5:=yf xo 6 rfl h6 5 rfl
      have Q:=yf xo 5 rfl h5 1 rfl
      have h4:=yf xo 5 rfl h5 4 rfl
      have h0:=yf xo 1 rfl Q 0 rfl
      have h3:=yf xo 4 rfl h4 3 rfl
      have N:=yf xo 3 rfl h3 2 rfl
      have uk:∀ j,j ≠ 10→j < 12→xx[j]? = some true:=fun j jd R=>by
       rcases (by omega:j = 0 ∨ j = 1 ∨ j = 2 ∨ j = 3 ∨ j = 4 ∨ j = 5 ∨ j = 6 ∨ j = 7 ∨ j = 8 ∨ j = 9 ∨ j = 11) with rfl | rfl | rfl | rfl | rfl | rfl | rfl | rfl | rfl | rfl | rfl <;> assumption
      rw [uk i xB xK] at xy; cases xy
     clear xo y5
     have uB:=Y xk
     have HD:=Y hD
     have jE:=Y (zl (U HRW) xk tg)
     have z0:=zb (U hM).cells xk (U hM).lt 0 _ rfl
     have z1:=zb (U hM).cells xk (U hM).lt 1 _ rfl
     have o0:=zb (U po) xk hl3 0 _ rfl
     rw [Nat.zero_add] at z0 z1 o0
     match i,Z with
    | 0,Z =>
     obtain rfl:=ya Z
     clear D hD xk
     rw [if_pos (by rfl)];unfold Oper.wp;go_simp
     exact ⟨upd f 0 (I mb 0),by simp [upd],zd (U uB) (U HD) (by decide) rfl⟩
    | 1,Z =>
     obtain rfl:=ya Z
     have g:f 0 = I mb 0:=hD 0 (ye D 0 rfl)
     clear D hD xk
     rw [if_pos (by rfl)];unfold Oper.wp;go_simp
     exact ⟨upd f 1 (.agg #[H (next + 1),.slice aq ll.length cq]),by simp [upd,g],zd (U uB) (U HD) (by decide) rfl⟩
    | 2,Z =>
     obtain rfl:=ya Z
     clear D hD xk
     rw [if_pos (by rfl)];unfold Oper.wp;go_simp
     exact ⟨upd f 2 (I (w.heap.size + 1) 0),by simp [upd],zd (U uB) (U HD) (by decide) rfl⟩
    | 3,Z =>
     obtain rfl:=ya Z
     have g:f 2 = I (w.heap.size + 1) 0:=hD 2 (ye D 2 rfl)
     clear D hD xk
     rw [if_pos (by rfl)];unfold Oper.wp;go_simp
     exact ⟨upd f 3 (H s),by simp [upd,g],zd (U uB) (U HD) (by decide) rfl⟩
    | 4,Z =>
     obtain rfl:=ya Z
     have g:f 3 = H s:=hD 3 (ye D 3 rfl)
     clear D hD xk
     rw [if_pos (by rfl)];unfold Oper.wp;go_simp
     refine (otherSide_any s ty).mono ?_
     rw [U HSD]
     rintro e w4 ⟨rfl,rfl⟩
     exact ⟨upd f 4 (H sd),by simp [upd,g],zd (U uB) (U HD) (by decide) rfl⟩
    | 5,Z =>
     obtain rfl:=ya Z
     have g1:f 1 = .agg #[H (next + 1),.slice aq ll.length cq]:=hD 1 (ye D 1 rfl)
     have g4:f 4 = H sd:=hD 4 (ye D 4 rfl)
     have pR:=n12' (by omega) (by omega)
     clear D hD xk
     rw [if_pos (by rfl)];unfold Oper.wp;go_simp
     by_cases uF:sd = 1
     ·subst uF
      refine (sideOf_buy (next + 1) _ ll ty (U jE) (U HGL).len (U HLB)).mono ?_
      rintro e w4 ⟨b,rfl,ht,kl,xC⟩
      exact ⟨upd f 5 (bJ b),by simp [upd,g1,g4],aR (U uB) (U HD) xC (by decide) (dq_grow pR xC) (fun _=>.inl ⟨rfl,b,rfl,ht⟩)⟩
     ·refine (sideOf_sell (next + 1) sd uF _ ll ty (U jE) (U HGL).len (U HLB)).mono ?_
      rintro e w4 ⟨b,rfl,ht,kl,xC⟩
      exact ⟨upd f 5 (bK b),by simp [upd,g1,g4],aR (U uB) (U HD) xC (by decide) (dq_grow pR xC) (fun _=>.inr ⟨uF,b,rfl,ht⟩)⟩
    | 6,Z =>
     obtain rfl:=ya Z
     have pR:=n12' (by omega) (by omega)
     rcases hD 5 (ye D 5 rfl) pR with ⟨uF,b,g5,ht⟩ | ⟨uF,b,g5,ht⟩
     ·subst uF
      have HT:=Y ht
      have hfl:=field0_bm b ty
      clear D hD xk ht
      rw [if_pos (by rfl)];unfold Oper.wp;go_simp
      exact ⟨upd f 6 (.func (.func 108) #[I b 0] #[]),by simp [upd,g5],zd (U uB) (U HD) (by decide) (fun _=>.inl ⟨rfl,b,rfl,U HT⟩)⟩
     ·have HT:=Y ht
      have hfl:=field0_sm b ty
      clear D hD xk ht
      rw [if_pos (by rfl)];unfold Oper.wp;go_simp
      exact ⟨upd f 6 (.func (.func 112) #[I b 0] #[]),by simp [upd,g5],zd (U uB) (U HD) (by decide) (fun _=>.inr ⟨uF,b,rfl,U HT⟩)⟩
    | 7,Z =>
     obtain rfl:=ya Z
     have pR:=n12' (by omega) (by omega)
     rcases hD 6 (ye D 6 rfl) pR with ⟨uF,b,g6,ht⟩ | ⟨uF,b,g6,ht⟩
     ·subst uF
      have HT:=Y ht
      have HE:Hid (frOf (quOf true (zt ll 1)) = .tuple #[.agg (yv x.id x.side x.ticks x.left x.life x.tag).toArray,.bool fb]):=by
       show _ = _
       have:=U HFR
       simpa using this
      clear D hD xk ht
      rw [if_pos (by rfl)];unfold Oper.wp;go_simp
      refine (front_b b 1 (zt ll 1) ty (U HT) (yN (List.length_filter_le _ _) (U HGL).len)).mono ?_
      rw [U HE]
      rintro e w4 ⟨rfl,xC⟩
      exact ⟨upd f 7 (.tuple #[.agg (yv x.id x.side x.ticks x.left x.life x.tag).toArray,.bool fb]),by simp [upd,g6],aR (U uB) (U HD) xC (by decide) (dq_grow pR xC) rfl⟩
     ·have HT:=Y ht
      have HE:Hid (frOf (quOf false (zt ll sd)) = .tuple #[.agg (yv x.id x.side x.ticks x.left x.life x.tag).toArray,.bool fb]):=by
       have:=U HFR
       rw [decide_eq_false uF] at this
       exact this
      clear D hD xk ht
      rw [if_pos (by rfl)];unfold Oper.wp;go_simp
      refine (front_s b sd (zt ll sd) ty (U HT) (yN (List.length_filter_le _ _) (U HGL).len)).mono ?_
      rw [U HE]
      rintro e w4 ⟨rfl,xC⟩
      exact ⟨upd f 7 (.tuple #[.agg (yv x.id x.side x.ticks x.left x.life x.tag).toArray,.bool fb]),by simp [upd,g6],aR (U uB) (U HD) xC (by decide) (dq_grow pR xC) rfl⟩
    | 8,Z =>
     obtain rfl:=ya Z
     have g:f 7 = .tuple #[.agg (yv x.id x.side x.ticks x.left x.life x.tag).toArray,.bool fb]:=hD 7 (ye D 7 rfl)
     clear D hD xk
     rw [if_pos (by rfl)];unfold Oper.wp;go_simp
     exact ⟨upd f 8 (.tuple #[.agg (yv x.id x.side x.ticks x.left x.life x.tag).toArray,.bool fb]),by simp [upd,g],zd (U uB) (U HD) (by decide) rfl⟩
    | 9,Z =>
     obtain rfl:=ya Z
     have g:f 8 = .tuple #[.agg (yv x.id x.side x.ticks x.left x.life x.tag).toArray,.bool fb]:=hD 8 (ye D 8 rfl)
     clear D hD xk
     rw [if_pos (by rfl)];unfold Oper.wp;go_simp
     exact ⟨upd f 9 (.agg (yv x.id x.side x.ticks x.left x.life x.tag).toArray),by simp [upd,g],zd (U uB) (U HD) (by decide) rfl⟩
    | 10,Z =>
     obtain rfl:=ya Z
     have g:f 8 = .tuple #[.agg (yv x.id x.side x.ticks x.left x.life x.tag).toArray,.bool fb]:=hD 8 (ye D 8 rfl)
     clear D hD xk
     rw [if_pos (by rfl)];unfold Oper.wp;go_simp
     exact ⟨upd f 10 (.bool fb),by simp [upd,g],zd (U uB) (U HD) (by decide) rfl⟩
    | 11,Z =>
     obtain rfl:=ya Z
     have pR:=n12' (by omega) (by omega)
     clear D hD xk
     rw [if_pos (by rfl)];unfold Oper.wp;go_simp
     have xC:=ed ty (E (yv 0 0 0 0 0 ⟨#[]⟩).toArray 66)
     exact ⟨upd f 11 (yp ty 0),by simp [upd],aR (U uB) (U HD) xC (by decide) (dq_grow pR xC) ⟨ty.heap.size,rfl,(U uB).size,fun _=>⟨zu ty (yv 0 0 0 0 0 ⟨#[]⟩) _,by rw [ze]; omega⟩,fun h=>absurd h pR⟩⟩
    | 12,Z =>
     obtain rfl:=ya Z
     have pR:¬ xx[12]? = some true:=by rw [xy]; simp
     have g9:f 9 = .agg (yv x.id x.side x.ticks x.left x.life x.tag).toArray:=hD 9 (ye D 9 rfl)
     obtain ⟨pb,vF,hpb,xG,-⟩:=hD 11 (ye D 11 rfl)
     obtain ⟨xG,hplt⟩:=xG pR
     have jF:=Y xG
     obtain ⟨u0,y0,q0⟩:=zD xG 0 (by omega)
     obtain ⟨u1,y1,q1⟩:=zD xG 1 (by omega)
     obtain ⟨u2,y2,q2⟩:=zD xG 2 (by omega)
     obtain ⟨u3,y3,q3⟩:=zD xG 3 (by omega)
     obtain ⟨u4,y4,q4⟩:=zD xG 4 (by omega)
     obtain ⟨u5,y5,q5⟩:=zD xG 5 (by omega)
     simp only [Nat.zero_add] at y0 q0 y1 q1 y2 q2 y3 q3 y4 q4 y5 q5
     clear D hD xk xG
     rw [if_pos (by rfl)];unfold Oper.wp;go_simp
     refine ⟨upd f 12 M,by simp [upd,g9,vF],rgx_last (zm pb hpb (yv x.id x.side x.ticks x.left x.life x.tag) 0 ty (U uB)) (U HD) xy (fun j R hxj h=>dq_last j R h (fun hj11=>?_)) trivial⟩
     subst hj11
     refine ⟨pb,vF,hpb,fun h=>absurd trivial h,fun _=>⟨?_,?_⟩⟩
     ·exact yX ty pb 0 (yv x.id x.side x.ticks x.left x.life x.tag) (fun j R=>U jF j R)
     ·show pb < (ty.setCells pb 0 (yv x.id x.side x.ticks x.left x.life x.tag)).heap.size
      simp only [World.setCells,World.setCell,Array.size_modify]; exact hplt
    | 13,Z =>
     obtain rfl:=ya Z
     have g:f 10 = .bool fb:=hD 10 (ye D 10 rfl)
     clear D hD xk
     rw [if_pos (by rfl)];unfold Oper.wp;go_simp
     exact ⟨upd f 13 (.bool fb),by simp [upd,g],zd (U uB) (U HD) (by decide) rfl⟩
    | i + 14,Z=>simp at Z
   ·have pX:Hid (qt = (ll,lf,ts)):=mi_done (U hI) oq
    have xG:wr.there (w.heap.size + 1 + 1) 0 9:=fun j R=>by
     have L:=(U hK).block (w.heap.size + 1 + 1) (by have:=U kF; omega) (by have:=U kF; have:=U HMB; omega)
     have:=(U HX).2.2 j R
     rw [yQ (a:=(J (w.heap.size + 1 + 1) (0 + j))) L,World.frozen?_of_block (a:=(J (w.heap.size + 1 + 1) (0 + j))) L]
     exact this
    have um:=Y (match_end (U hM) (U hK) (U xT) (U kF) (U HMB) [H (next + 1),.slice aq ll.length cq,H next,H s,H (tk pr),H lf,H li,yk O,.slice av ts.length cv] rfl xG)
    have c0:=(U hM).cells 0 _ rfl
    have c1:=(U hM).cells 1 _ rfl
    have c2:=(U hM).cells 2 _ rfl
    have c3:=(U hM).cells 3 _ rfl
    have c4:=(U hM).cells 4 _ rfl
    have c5:=(U hM).cells 5 _ rfl
    have c6:=(U hM).cells 6 _ rfl
    have c7:=(U hM).cells 7 _ rfl
    have c8:=(U hM).cells 8 _ rfl
    simp only [Nat.zero_add] at c0 c1 c2 c3 c4 c5 c6 c7 c8
    obtain ⟨v0,z0,q0⟩:=zD xG 0 (by omega)
    obtain ⟨v1,z1,q1⟩:=zD xG 1 (by omega)
    obtain ⟨v2,z2,q2⟩:=zD xG 2 (by omega)
    obtain ⟨v3,z3,q3⟩:=zD xG 3 (by omega)
    obtain ⟨v4,z4,q4⟩:=zD xG 4 (by omega)
    obtain ⟨v5,z5,q5⟩:=zD xG 5 (by omega)
    obtain ⟨v6,z6,q6⟩:=zD xG 6 (by omega)
    obtain ⟨v7,z7,q7⟩:=zD xG 7 (by omega)
    obtain ⟨v8,z8,q8⟩:=zD xG 8 (by omega)
    simp only [Nat.zero_add] at z0 q0 z1 q1 z2 q2 z3 q3 z4 q4 z5 q5 z6 q6 z7 q7 z8 q8
    clear xG
    go_wp2_with fail
    try simp (config:={ zetaDelta:=true }) only [Exit.noGoto_ret]
    change bodyPost _ _ _ _ _ (wr.setCells (w.heap.size + 1 + 1) 0 [H (next + 1),.slice aq ll.length cq,H next,H s,H (tk pr),H lf,H li,yk O,.slice av ts.length cv])
    generalize wr.setCells (w.heap.size + 1 + 1) 0 [H (next + 1),.slice aq ll.length cq,H next,H s,H (tk pr),H lf,H li,yk O,.slice av ts.length cv] = WE at um ⊢
    obtain ⟨d0,d1,d2,d3,d4,d5,d6,d7,d8⟩:=yE (U um).1
    try simp only [Exit.inBlock,Exit.then]
    refine bodyPost_ret (by simp [results,Tryz.results54,go_sem,d0,d1,d2,d3,d4,d5,d6,d7,d8]; try rfl) rfl ?_
    rw [U pX]
    exact ⟨_,_,rfl,(U um).2.1,(U um).2.2.1,(U um).2.2.2⟩
 ·rintro x xm V i op ⟨f,rfl,xk,hD⟩ xo hx Z xy D
  have n8':i < 8→¬ x[8]? = some true:=fun xK h8=>by
   have h7:=yf xo 8 rfl h8 7 rfl
   have h6:=yf xo 8 rfl h8 6 rfl
   have h5:=yf xo 6 rfl h6 5 rfl
   have Q:=yf xo 6 rfl h6 1 rfl
   have h0:=yf xo 1 rfl Q 0 rfl
   have N:=yf xo 5 rfl h5 2 rfl
   have h4:=yf xo 5 rfl h5 4 rfl
   have h3:=yf xo 4 rfl h4 3 rfl
   have uk:∀ j,j < 8→x[j]? = some true:=fun j R=>by
    rcases (by omega:j = 0 ∨ j = 1 ∨ j = 2 ∨ j = 3 ∨ j = 4 ∨ j = 5 ∨ j = 6 ∨ j = 7) with rfl | rfl | rfl | rfl | rfl | rfl | rfl | rfl <;> assumption
   rw [uk i xK] at xy; cases xy
  clear xo
  have xv:=Y xk
  have HD:=Y hD
  have jf:=Y (zl (U HR3) xk tg)
  have z0:=zb (U HX).1 xk (by omega) 0 _ rfl
  have z1:=zb (U HX).1 xk (by omega) 1 _ rfl
  have o0:=zb (U HX).2.1 xk (by omega) 0 _ rfl
  have o1:=zb (U HX).2.1 xk (by omega) 1 _ rfl
  have o2:=zb (U HX).2.1 xk (by omega) 2 _ rfl
  have o3:=zb (U HX).2.1 xk (by omega) 3 _ rfl
  have o4:=zb (U HX).2.1 xk (by omega) 4 _ rfl
  have o5:=zb (U HX).2.1 xk (by omega) 5 _ rfl
  rw [Nat.zero_add] at z0 z1 o0 o1 o2 o3 o4 o5
  clear hw3
  match i,Z with
  | 0,Z =>
   obtain rfl:=ya Z
   clear D hD xk
   rw [if_pos (by rfl)];unfold Oper.wp;go_simp
   exact ⟨upd f 0 (.agg #[H next,.slice a l.length A]),by simp [upd],zd (U xv) (U HD) (by decide) rfl⟩
  | 1,Z =>
   obtain rfl:=ya Z
   have g:f 0 = .agg #[H next,.slice a l.length A]:=hD 0 (ye D 0 rfl)
   have n8:=n8' (by omega)
   clear D hD xk
   rw [if_pos (by rfl)];unfold Oper.wp;go_simp
   refine (copyBook_any next _ l V (U jf) hsl (by omega)).mono ?_
   rintro e w4 ⟨v4,rfl,ax,xC⟩
   obtain ⟨a4,c4,rfl⟩:=rd_lenF (zK ax (by omega))
   exact ⟨upd f 1 (.agg #[H next,.slice a4 l.length c4]),by simp [upd,g],aR (U xv) (U HD) xC (by decide) (dm_grow n8 xC) ⟨a4,c4,rfl,fun _=>bO ax (U xv).size⟩⟩
  | 2,Z =>
   obtain rfl:=ya Z
   clear D hD xk
   rw [if_pos (by rfl)];unfold Oper.wp;go_simp
   exact ⟨upd f 2 (.agg #[H s,H X,H li,H F,yj pr,yk O]),by simp [upd],zd (U xv) (U HD) (by decide) rfl⟩
  | 3,Z =>
   obtain rfl:=ya Z
   clear D hD xk
   rw [if_pos (by rfl)];unfold Oper.wp;go_simp
   exact ⟨upd f 3 (yp w 0),by simp [upd],zd (U xv) (U HD) (by decide) rfl⟩
  | 4,Z =>
   obtain rfl:=ya Z
   have g:f 3 = yp w 0:=hD 3 (ye D 3 rfl)
   clear D hD xk
   rw [if_pos (by rfl)];unfold Oper.wp;go_simp
   exact ⟨upd f 4 (H next),by simp [upd,g],zd (U xv) (U HD) (by decide) rfl⟩
  | 5,Z =>
   obtain rfl:=ya Z
   have g2:f 2 = .agg #[H s,H X,H li,H F,yj pr,yk O]:=hD 2 (ye D 2 rfl)
   have g4:f 4 = H next:=hD 4 (ye D 4 rfl)
   have n8:=n8' (by omega)
   clear D hD xk
   rw [if_pos (by rfl)];unfold Oper.wp;go_simp
   refine (order_any ⟨kk,s,X,li,F,ii,pr,O⟩ next V).mono ?_
   rintro e w4 ⟨rfl,xC⟩
   exact ⟨upd f 5 (.agg (yv next s (tk pr) F li O).toArray),by simp [upd,g2,g4],aR (U xv) (U HD) xC (by decide) (dm_grow n8 xC) rfl⟩
  | 6,Z =>
   obtain rfl:=ya Z
   obtain ⟨a4,c4,g1,qb⟩:=hD 1 (ye D 1 rfl)
   have g5:f 5 = .agg (yv next s (tk pr) F li O).toArray:=hD 5 (ye D 5 rfl)
   have vh:=Y qb
   clear D hD xk qb
   rw [if_pos (by rfl)];unfold Oper.wp;go_simp
   exact ⟨upd f 6 (.agg #[H next,.slice a4 l.length c4,H next,H s,H (tk pr),H F,H li,yk O,.slice none 0 0]),by simp [upd,g1,g5],zd (U xv) (U HD) (by decide) ⟨a4,c4,rfl,U vh⟩⟩
  | 7,Z =>
   obtain rfl:=ya Z
   have n8:=n8' (by omega)
   clear D hD xk
   rw [if_pos (by rfl)];unfold Oper.wp;go_simp
   have xC:=ed V (E #[H 0,.slice none 0 0,H 0,H 0,H 0,H 0,H 0,yk ⟨#[]⟩,.slice none 0 0] 105)
   exact ⟨upd f 7 (yp V 0),by simp [upd],aR (U xv) (U HD) xC (by decide) (dm_grow n8 xC) ⟨V.heap.size,rfl,(U xv).size,fun _=>⟨zu V [H 0,.slice none 0 0,H 0,H 0,H 0,H 0,H 0,yk ⟨#[]⟩,.slice none 0 0] _,_,heap_alloc_new V _⟩,fun h=>absurd h n8⟩⟩
  | 8,Z =>
   obtain rfl:=ya Z
   have n8:¬ x[8]? = some true:=by rw [xy]; simp
   obtain ⟨a4,c4,g6,ho6⟩:=hD 6 (ye D 6 rfl)
   obtain ⟨mb,g7,hmb,xG,-⟩:=hD 7 (ye D 7 rfl)
   obtain ⟨xG,qZ⟩:=xG n8
   have oB:=Y (ho6 n8)
   have jF:=Y xG
   have uB:=Y qZ
   obtain ⟨u0,y0,q0⟩:=zD xG 0 (by omega)
   obtain ⟨u1,y1,q1⟩:=zD xG 1 (by omega)
   obtain ⟨u2,y2,q2⟩:=zD xG 2 (by omega)
   obtain ⟨u3,y3,q3⟩:=zD xG 3 (by omega)
   obtain ⟨u4,y4,q4⟩:=zD xG 4 (by omega)
   obtain ⟨u5,y5,q5⟩:=zD xG 5 (by omega)
   obtain ⟨u6,y6,q6⟩:=zD xG 6 (by omega)
   obtain ⟨u7,y7,q7⟩:=zD xG 7 (by omega)
   obtain ⟨u8,y8,q8⟩:=zD xG 8 (by omega)
   simp only [Nat.zero_add] at y0 q0 y1 q1 y2 q2 y3 q3 y4 q4 y5 q5 y6 q6 y7 q7 y8 q8
   clear D hD xk ho6 xG qZ
   rw [if_pos (by rfl)];unfold Oper.wp;go_simp
   refine ⟨upd f 8 M,by simp [upd,g6,g7],rgx_last (zm mb hmb [H next,.slice a4 l.length c4,H next,H s,H (tk pr),H F,H li,yk O,.slice none 0 0] 0 V (U xv)) (U HD) xy (fun j R hxj h=>dm_last j R h (fun hj7=>?_)) trivial⟩
   subst hj7
   refine ⟨mb,g7,hmb,fun h=>absurd trivial h,fun _=>⟨a4,c4,?_⟩⟩
   exact matS_made (c:=⟨kk,s,X,li,F,ii,pr,O⟩) (U jF) (U uB) (U oB) (by have:=(U xv).size; omega)
  | i + 9,Z=>simp at Z
end Go.Proofs.YtdliebbfcmdmaaaGreat
