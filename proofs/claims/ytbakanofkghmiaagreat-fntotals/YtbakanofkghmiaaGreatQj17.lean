/-
  What comes of a new order, by the program: proved by walking the function.
-/
import Derived.Test.YtbakanofkghmiaaGreatQj16
import Derived.WalkMore
set_option linter.unusedVariables false
set_option maxHeartbeats 6400000
set_option maxRecDepth 100000
namespace Go.Proofs.YtbakanofkghmiaaGreat
open Go.RowKit
theorem match_any (next:Int) (vb:Value) (l:List Od) (c:Cm) (w:World) (hr:RdR Od.vs 6 w vb l) (hs:SlOk vb) (hg:GoodL l) (h0:0 ≤ next) (Q:next ≤ 1000000) (jp:0 ≤ c.q) (jq:c.q ≤ 1000000) :
  Calls Tryz.prog 112 #[.agg #[H next,vb],noV c] w fun e w'=>∃ vq vt,e = ym (.agg #[H (next + 1),vq,H next,H c.s,H (tk c.p),H (matL c next 21 l c.q []).2.1,H c.l,yk c.g,vt])∧ORow w' w.heap.size vq (matL c next 21 l c.q []).1∧ERow w' w.heap.size vt (matL c next 21 l c.q []).2.2∧yn w w':=by
 have HR:=Y hr
 have HG:=Y hg
 have hsl:=hs
 have HMI:=Y (mi_start (c:=c) (id:=next) hg jp jq)
 have hn:=hg.len
 obtain ⟨a,A,rfl,xG,hc⟩:=hr
 generalize hF:matL c next 21 l c.q [] = ty at HMI ⊢
 clear hF hc hg hs
 obtain ⟨kk,s,F,li,L,ii,pr,O⟩:=c
 unfold noV
 simp only at *
 have xC:=zh w (E #[H next,.slice a l.length A] 28)
 have ua:((w.alloc (E #[H next,.slice a l.length A] 28)).alloc (E #[H s,H F,H li,H L,yj pr,yk O] 112)).heap.size = w.heap.size + 1 + 1:=by rw [zh,xC]
 have jd:(((w.alloc (E #[H next,.slice a l.length A] 28)).alloc (E #[H s,H F,H li,H L,yj pr,yk O] 112)).alloc (E #[H 0,.slice none 0 0,H 0,H 0,H 0,H 0,H 0,yk ⟨#[]⟩,.slice none 0 0] 157)).heap.size = w.heap.size + 1 + 1 + 1:=by rw [zh,ua]
 have r1:=zi w [H next,.slice a l.length A] 28
 have r2:=zi (w.alloc (E #[H next,.slice a l.length A] 28)) [H s,H F,H li,H L,yj pr,yk O] 112
 rw [xC] at r2
 have t3:=zw ((w.alloc (E #[H next,.slice a l.length A] 28)).alloc (E #[H s,H F,H li,H L,yj pr,yk O] 112)) [H 0,.slice none 0 0,H 0,H 0,H 0,H 0,H 0,yk ⟨#[]⟩,.slice none 0 0] 157
 rw [ua] at t3
 have xQ:Hid (yn w (((w.alloc (E #[H next,.slice a l.length A] 28)).alloc (E #[H s,H F,H li,H L,yj pr,yk O] 112)).alloc (E #[H 0,.slice none 0 0,H 0,H 0,H 0,H 0,H 0,yk ⟨#[]⟩,.slice none 0 0] 157))):=((eE _ _).alloc (by rw [xC]; omega) _).alloc (by rw [ua]; omega) _
 have b23:Below (w.heap.size + 1 + 1) ((w.alloc (E #[H next,.slice a l.length A] 28)).alloc (E #[H s,H F,H li,H L,yj pr,yk O] 112)) (((w.alloc (E #[H next,.slice a l.length A] 28)).alloc (E #[H s,H F,H li,H L,yj pr,yk O] 112)).alloc (E #[H 0,.slice none 0 0,H 0,H 0,H 0,H 0,H 0,yk ⟨#[]⟩,.slice none 0 0] 157)):=(Below.refl _ _).alloc (by rw [ua]; omega) _
 have qe:Below (w.heap.size + 1) (w.alloc (E #[H next,.slice a l.length A] 28)) ((w.alloc (E #[H next,.slice a l.length A] 28)).alloc (E #[H s,H F,H li,H L,yj pr,yk O] 112)):=(Below.refl _ _).alloc (by rw [xC]; omega) _
 have HX:Hid (_∧_∧_):=⟨zb (zb r1 qe (by omega)) b23 (by omega),zb r2 b23 (by omega),t3⟩
 have kE:=Y jd
 clear xC ua jd r1 r2 t3 b23 qe
 go_enter Tryz.func112,Tryz.ntmps112
 go_wp2_with fail
 go_step3
 go_wp2_with fail
 generalize (((w.alloc (E #[H next,.slice a l.length A] 28)).alloc (E #[H s,H F,H li,H L,yj pr,yk O] 112)).alloc (E #[H 0,.slice none 0 0,H 0,H 0,H 0,H 0,H 0,yk ⟨#[]⟩,.slice none 0 0] 157)) = W3 at xQ HX kE ⊢
 have HX:Hid (W3.rangeAt w.heap.size 0 [H next,.slice a l.length A]∧W3.rangeAt (w.heap.size + 1) 0 [H s,H F,H li,H L,yj pr,yk O]∧W3.there (w.heap.size + 1 + 1) 0 9):=U HX
 have hw3:W3.heap.size = w.heap.size + 1 + 1 + 1:=U kE
 have HR3:=Y (zn (U HR) (U xQ) tg)
 refine zj (RG W3 (fun f=>{ tmps:=#[.agg #[H next,.slice a l.length A],.agg #[H s,H F,H li,H L,yj pr,yk O],yp w 0,I (w.heap.size + 1) 0,I (w.heap.size + 1 + 1) 0,f 7,M,M,f 0,f 1,f 2,f 3,f 4,f 5,f 6,M,M,M,M,M,M,M,M,M,M,M,M,M,M,M,M,M,M,M,M,M,M,M,M,M,M,M,M,M,M,M],defers:=[] }) 8 (DM w.heap.size W3.heap.size W3 next a A l ⟨kk,s,F,li,L,ii,pr,O⟩)) (by kernel_rfl) ?_ ?_ ?_
 ·exact ⟨fun _=>M,rfl,⟨rfl,rfl,rfl,Nat.le_refl _,fun _ _=>rfl⟩,fun j R=>by rw [yJ] at R; split at R <;> simp at R⟩
 ·rintro x xn V ⟨f,rfl,xm,hD⟩ hx xN
  have xq:=zS xN hx (acyc _ (by kernel_rfl))
  have k8:x[8]? = some true:=xq 8 (by simp)
  obtain ⟨mb,g7,hmb,-,vl⟩:=hD 7 (xq 7 (by simp))
  obtain ⟨a4,c4,hM⟩:=vl k8
  have HM:=Y hM
  have xw:=Y xm
  have y0:V.cell? (J mb 0) = some (H next):=hM.cells 0 _ rfl
  have f0:V.frozen? (J mb 0) = false:=by have:=(hM.there 0 (by omega)).2; rwa [Nat.zero_add] at this
  have hwr:IntKind.i64.wrap (next + 1) = next + 1:=by rw [IntKind.wrap_i64]; omega
  dsimp only
  simp only [g7]
  generalize f 0 = e0,f 1 = e1,f 2 = e2,f 3 = e3,f 4 = e4,f 5 = e5,f 6 = e6
  clear hD xq xN hx k8 vl hM xm g7 x f
  go_wp2_with fail
  go_step3
  go_wp2_with fail
  have HMB:=Y hmb
  clear hw3 hmb y0 f0
  go_loopw [] (fun wr=>∃ vq ll lf vt ts,Hid (MatS mb W3.heap.size wr (next + 1) vq ll ⟨next,s,tk pr,lf,li,O⟩ vt ts)∧Hid (MI ⟨kk,s,F,li,L,ii,pr,O⟩ next ty ll lf ts)∧Hid (KeptBut mb W3.heap.size W3 wr)) (fun wr=>meas mb wr)
  case atStart=>exact ⟨_,l,L,_,[],matS_next (U HM) (next + 1),U HMI,zk (zC (U xw) tg) (cP V 0 _)⟩
  case round =>
   obtain ⟨vq,ll,lf,vt,ts,hM,hI,hK⟩:=hrel
   have y5:wr.cell? (J mb 5) = some (H lf):=(U hM).cells 5 _ rfl
   obtain ⟨av,cv,rfl⟩:∃ a c,vt = .slice a ts.length c:=by
    rcases (U hM).erow.2 with ⟨e,e2⟩ | ⟨g,A,xu,e,_⟩
    ·exact ⟨none,0,by rw [e,e2]⟩
    ·exact ⟨_,_,e⟩
   obtain ⟨aq,cq,rfl⟩:∃ a c,vq = .slice a ll.length c:=by
    rcases (U hM).orow.2 with ⟨e,e2⟩ | ⟨g,A,xu,e,_⟩
    ·exact ⟨none,0,by rw [e,e2]⟩
    ·exact ⟨_,_,e⟩
   by_cases pj:0 < lf
   ·have oh:=Y (U hI).good
    have HLB:Hid (∀ o' ∈ ll,0 ≤ o'.left∧o'.left ≤ 1000000):=fun o' vB=>by have:=(U oh).left o' vB; omega
    have HRW:=Y (zN (U hM).orow (by have:=(U oh).len; omega))
    generalize uJ:othS s = sd
    have HSD:=Y uJ
    generalize hq:quOf (decide (sd = 1)) (zA ll sd) = q
    have oN:=frOf_eq q
    generalize hx:hdO q = x at oN
    generalize hfb:hdF q = fb at oN
    have HFR:Hid (frOf (quOf (decide (sd = 1)) (zA ll sd)) = .tuple #[.agg (yw x.id x.side x.ticks x.left x.life x.tag).toArray,.bool fb]):=by show _ = _; rw [hq]; exact oN
    have HFO:Hid (aV ll (othS s) = if fb = true then some x else none):=by
     show _ = _
     rw [aV,uJ,hq,← hx,← hfb,hdO,hdF]
     cases q.head? <;> rfl
    clear uJ hq oN hx hfb q
    have jd:=U kE
    have hc3:∀ j,wr.cell? (J (w.heap.size + 1) j) = W3.cell? (J (w.heap.size + 1) j):=fun j=>yR (a:=(J (w.heap.size + 1) j)) ((U hK).block (w.heap.size + 1) (by omega) (by have:=U HMB; omega))
    have pv:Hid (wr.rangeAt (w.heap.size + 1) 0 [H s,H F,H li,H L,yj pr,yk O]):=fun j u R=>(hc3 _).trans ((U HX).2.1 j u R)
    have hl3:w.heap.size + 1 < wr.heap.size:=by have:=(U hK).size; omega
    clear hc3 jd
    go_wp2_with fail
    refine zj (RG wr (fun f=>{ tmps:=#[.agg #[H next,.slice a l.length A],.agg #[H s,H F,H li,H L,yj pr,yk O],yp w 0,I (w.heap.size + 1) 0,I (w.heap.size + 1 + 1) 0,I mb 0,f 11,f 13,e0,e1,e2,e3,e4,e5,e6,I mb 0,I mb 0,H next,H (next + 1),I mb 0,I mb 0,I mb 2,I mb 5,H lf,.bool true,f 8,f 0,f 1,f 2,f 3,f 4,f 5,f 6,f 7,f 9,f 10,u36,u37,u38,u39,u40,u41,u42,u43,u44,M],defers:=[] }) 12 (DQ mb (w.heap.size + 1) wr (.agg #[H (next + 1),.slice aq ll.length cq]) s sd ll x fb)) (by kernel_rfl) ?_ ?_ ?_
    ·exact ⟨fun j=>if j = 0 then u26 else if j = 1 then u27 else if j = 2 then u28 else if j = 3 then u29 else if j = 4 then u30 else if j = 5 then u31 else if j = 6 then u32 else if j = 7 then u33 else if j = 8 then u25 else if j = 9 then u34 else if j = 10 then u35 else if j = 11 then u6 else if j = 13 then u7 else M,rfl,⟨rfl,rfl,rfl,Nat.le_refl _,fun _ _=>rfl⟩,fun j R=>by rw [yJ] at R; split at R <;> simp at R⟩
    ·rintro xx xn hb ⟨f,rfl,xm,hD⟩ hx xN
     have xq:=zR xN hx (by kernel_rfl)
     have k12:xx[12]? = some true:=xq 12 (by simp)
     have jV:f 13 = .bool fb:=hD 13 (xq 13 (by simp))
     obtain ⟨pb,vw,hpb,-,vl⟩:=hD 11 (xq 11 (by simp))
     obtain ⟨kb,hplt⟩:=vl k12
     have vC:=Y (dp (U hM) xm)
     have kg:=Y (zk (U hK) (zC xm (U hM).le))
     have o0:=zb (U pv) xm hl3 0 _ rfl
     have o1:=zb (U pv) xm hl3 1 _ rfl
     have o2:=zb (U pv) xm hl3 2 _ rfl
     have o3:=zb (U pv) xm hl3 3 _ rfl
     have o4:=zb (U pv) xm hl3 4 _ rfl
     have o5:=zb (U pv) xm hl3 5 _ rfl
     have HRG:=Y kb
     obtain ⟨p0,p1,p2,p3,p4,p5⟩:=zF kb
     simp only [Nat.zero_add] at o0 o1 o2 o3 o4 o5 p0 p1 p2 p3 p4 p5
     dsimp only
     simp only [jV,vw]
     generalize f 0 = b0,f 1 = b1,f 2 = b2,f 3 = b3,f 4 = b4,f 5 = b5,f 6 = b6,f 7 = b7,f 8 = b8,f 9 = b9,f 10 = b10
     clear hD xq xN hx k12 vl xm vw jV kb hpb f xx y5
     cases fb
     ·have ai:Hid (ty = (ll,lf,ts)):=mi_none (U hI) (by have:=U HFO; simpa using this)
      clear o0 o1 o2 o3 o4 o5 p0 p1 p2 p3 p4 p5
      have xF:hb.there (w.heap.size + 1 + 1) 0 9:=fun j R=>by
       have X:=(U kg).block (w.heap.size + 1 + 1) (by have:=U kE; omega) (by have:=U kE; have:=U HMB; omega)
       have:=(U HX).2.2 j R
       rw [yR (a:=(J (w.heap.size + 1 + 1) (0 + j))) X,World.frozen?_of_block (a:=(J (w.heap.size + 1 + 1) (0 + j))) X]
       exact this
      have uo:=Y (match_end (U vC) (U kg) (U xQ) (U kE) (U HMB) [H (next + 1),.slice aq ll.length cq,H next,H s,H (tk pr),H lf,H li,yk O,.slice av ts.length cv] rfl xF)
      have c0:=(U vC).cells 0 _ rfl
      have c1:=(U vC).cells 1 _ rfl
      have c2:=(U vC).cells 2 _ rfl
      have c3:=(U vC).cells 3 _ rfl
      have c4:=(U vC).cells 4 _ rfl
      have c5:=(U vC).cells 5 _ rfl
      have c6:=(U vC).cells 6 _ rfl
      have c7:=(U vC).cells 7 _ rfl
      have c8:=(U vC).cells 8 _ rfl
      simp only [Nat.zero_add] at c0 c1 c2 c3 c4 c5 c6 c7 c8
      obtain ⟨v0,z0,q0⟩:=zG xF 0 (by omega)
      obtain ⟨v1,z1,q1⟩:=zG xF 1 (by omega)
      obtain ⟨v2,z2,q2⟩:=zG xF 2 (by omega)
      obtain ⟨v3,z3,q3⟩:=zG xF 3 (by omega)
      obtain ⟨v4,z4,q4⟩:=zG xF 4 (by omega)
      obtain ⟨v5,z5,q5⟩:=zG xF 5 (by omega)
      obtain ⟨v6,z6,q6⟩:=zG xF 6 (by omega)
      obtain ⟨v7,z7,q7⟩:=zG xF 7 (by omega)
      obtain ⟨v8,z8,q8⟩:=zG xF 8 (by omega)
      simp only [Nat.zero_add] at z0 q0 z1 q1 z2 q2 z3 q3 z4 q4 z5 q5 z6 q6 z7 q7 z8 q8
      clear xF
      go_wp2_with fail
      try simp (config:={ zetaDelta:=true }) only [Exit.noGoto_ret]
      change bodyPost _ _ _ _ _ (hb.setCells (w.heap.size + 1 + 1) 0 [H (next + 1),.slice aq ll.length cq,H next,H s,H (tk pr),H lf,H li,yk O,.slice av ts.length cv])
      generalize hb.setCells (w.heap.size + 1 + 1) 0 [H (next + 1),.slice aq ll.length cq,H next,H s,H (tk pr),H lf,H li,yk O,.slice av ts.length cv] = WE at uo ⊢
      obtain ⟨d0,d1,d2,d3,d4,d5,d6,d7,d8⟩:=yF (U uo).1
      try simp only [Exit.inBlock,Exit.then]
      refine bodyPost_ret (by simp [results,Tryz.results112,go_sem,d0,d1,d2,d3,d4,d5,d6,d7,d8]; try rfl) rfl ?_
      rw [U ai]
      exact ⟨_,_,rfl,(U uo).2.1,(U uo).2.2.1,(U uo).2.2.2⟩
     ·have HFO:Hid (aV ll (othS s) = some x):=by show _ = _; have:=U HFO; simpa using this
      go_wp2_with fail
      refine (meets_any ⟨kk,s,F,li,L,ii,pr,O⟩ x hb).mono ?_
      rintro e w5 ⟨rfl,vG⟩
      have HM5:=Y (dp (U vC) vG)
      have kq:=Y (zk (U kg) (zC vG (U vC).le))
      obtain ⟨s0,s1,s2,s3,s4,s5⟩:=zF (zb (U HRG) vG hplt)
      simp only [Nat.zero_add] at s0 s1 s2 s3 s4 s5
      clear o0 o1 o2 o3 o4 o5 p0 p1 p2 p3 p4 p5 vG
      cases hme:bz ⟨kk,s,F,li,L,ii,pr,O⟩ x
      ·have ai:Hid (ty = (ll,lf,ts)):=mi_stop (U hI) (U HFO) hme
       clear s0 s1 s2 s3 s4 s5 hme
       have xF:w5.there (w.heap.size + 1 + 1) 0 9:=fun j R=>by
        have X:=(U kq).block (w.heap.size + 1 + 1) (by have:=U kE; omega) (by have:=U kE; have:=U HMB; omega)
        have:=(U HX).2.2 j R
        rw [yR (a:=(J (w.heap.size + 1 + 1) (0 + j))) X,World.frozen?_of_block (a:=(J (w.heap.size + 1 + 1) (0 + j))) X]
        exact this
       have uo:=Y (match_end (U HM5) (U kq) (U xQ) (U kE) (U HMB) [H (next + 1),.slice aq ll.length cq,H next,H s,H (tk pr),H lf,H li,yk O,.slice av ts.length cv] rfl xF)
       have c0:=(U HM5).cells 0 _ rfl
       have c1:=(U HM5).cells 1 _ rfl
       have c2:=(U HM5).cells 2 _ rfl
       have c3:=(U HM5).cells 3 _ rfl
       have c4:=(U HM5).cells 4 _ rfl
       have c5:=(U HM5).cells 5 _ rfl
       have c6:=(U HM5).cells 6 _ rfl
       have c7:=(U HM5).cells 7 _ rfl
       have c8:=(U HM5).cells 8 _ rfl
       simp only [Nat.zero_add] at c0 c1 c2 c3 c4 c5 c6 c7 c8
       obtain ⟨v0,z0,q0⟩:=zG xF 0 (by omega)
       obtain ⟨v1,z1,q1⟩:=zG xF 1 (by omega)
       obtain ⟨v2,z2,q2⟩:=zG xF 2 (by omega)
       obtain ⟨v3,z3,q3⟩:=zG xF 3 (by omega)
       obtain ⟨v4,z4,q4⟩:=zG xF 4 (by omega)
       obtain ⟨v5,z5,q5⟩:=zG xF 5 (by omega)
       obtain ⟨v6,z6,q6⟩:=zG xF 6 (by omega)
       obtain ⟨v7,z7,q7⟩:=zG xF 7 (by omega)
       obtain ⟨v8,z8,q8⟩:=zG xF 8 (by omega)
       simp only [Nat.zero_add] at z0 q0 z1 q1 z2 q2 z3 q3 z4 q4 z5 q5 z6 q6 z7 q7 z8 q8
       clear xF
       go_wp2_with fail
       try simp (config:={ zetaDelta:=true }) only [Exit.noGoto_ret]
       change bodyPost _ _ _ _ _ (w5.setCells (w.heap.size + 1 + 1) 0 [H (next + 1),.slice aq ll.length cq,H next,H s,H (tk pr),H lf,H li,yk O,.slice av ts.length cv])
       generalize w5.setCells (w.heap.size + 1 + 1) 0 [H (next + 1),.slice aq ll.length cq,H next,H s,H (tk pr),H lf,H li,yk O,.slice av ts.length cv] = WE at uo ⊢
       obtain ⟨d0,d1,d2,d3,d4,d5,d6,d7,d8⟩:=yF (U uo).1
       try simp only [Exit.inBlock,Exit.then]
       refine bodyPost_ret (by simp [results,Tryz.results112,go_sem,d0,d1,d2,d3,d4,d5,d6,d7,d8]; try rfl) rfl ?_
       rw [U ai]
       exact ⟨_,_,rfl,(U uo).2.1,(U uo).2.2.1,(U uo).2.2.2⟩
      ·obtain ⟨k,jZ,pK,hI6,hms⟩:=mi_step (U hI) pj (U HFO) hme
       have hxm:=(U oh).left x (yP pK)
       have uK:Hid (_∧_∧_∧_):=⟨jZ,pK,hI6,hms⟩
       have hl1:=(U hI).l1
       have kz:=(U oh).len
       have hfew:=(U hI).few
       have uH:Hid (0 ≤ lf∧lf ≤ 1000000∧0 ≤ x.left∧x.left ≤ 1000000∧ll.length ≤ 1000∧ts.length ≤ 1000):=⟨by omega,by omega,by omega,by omega,by omega,by omega⟩
       clear jZ pK hI6 hms hme hxm hl1 kz hfew
       go_wp2_with fail
       refine (trade_any mb W3.heap.size (next + 1) _ ll ⟨next,s,tk pr,lf,li,O⟩ _ ts x k w5 (U HM5) (U uK).1 (U uK).2.1 (U uH).2.2.2.2.1 (U uH).2.2.2.2.2 (U uH).1 (U uH).2.1 (U uH).2.2.1 (U uH).2.2.2.1 _ rfl).mono ?_
       rintro e w6 ⟨vu,vt',rfl,hM6,hK6⟩
       have HM6:=Y hM6
       have au:=Y hK6
       clear hM6 hK6 s0 s1 s2 s3 s4 s5
       go_wp2_with fail
       dsimp only [H,I,J]
       go_roundw
       case rel=>exact ⟨vu,_,_,vt',_,U HM6,(U uK).2.2.1,zk (U kq) (U au)⟩
       case measure =>
        rw [meas_eq (U HM6),meas_eq (U hM)]
        have:=(U uK).2.2.2
        simp only [if_pos pj]
        exact this
    ·rintro xx xn hb i op ⟨f,rfl,xm,hD⟩ xp hx Z xz D
     have n12':i ≠ 10→i < 12→¬ xx[12]? = some true:=fun xB xL qD=>by
      have uZ:=yf xp 12 rfl qD 11 rfl
      have h9:=yf xp 12 rfl qD 9 rfl
      have h8:=yf xp 9 rfl h9 8 rfl
      have h7:=yf xp 8 rfl h8 7 rfl
      have h6:=yf xp 7 rfl h7 6 rfl
      have h5:=yf xp 6 rfl h6 5 rfl
      have Q:=yf xp 5 rfl h5 1 rfl
      have h4:=yf xp 5 rfl h5 4 rfl
      have h0:=yf xp 1 rfl Q 0 rfl
      have h3:=yf xp 4 rfl h4 3 rfl
      have N:=yf xp 3 rfl h3 2 rfl
      have ul:∀ j,j ≠ 10→j < 12→xx[j]? = some true:=fun j jg R=>by
       rcases (by omega:j = 0 ∨ j = 1 ∨ j = 2 ∨ j = 3 ∨ j = 4 ∨ j = 5 ∨ j = 6 ∨ j = 7 ∨ j = 8 ∨ j = 9 ∨ j = 11) with rfl | rfl | rfl | rfl | rfl | rfl | rfl | rfl | rfl | rfl | rfl <;> assumption
      rw [ul i xB xL] at xz; cases xz
     clear xp y5
     have uA:=Y xm
     have HD:=Y hD
     have jE:=Y (zn (U HRW) xm tg)
     have z0:=zb (U hM).cells xm (U hM).lt 0 _ rfl
     have z1:=zb (U hM).cells xm (U hM).lt 1 _ rfl
     have o0:=zb (U pv) xm hl3 0 _ rfl
     rw [Nat.zero_add] at z0 z1 o0
     match i,Z with
    | 0,Z =>
     obtain rfl:=ya Z
     clear D hD xm
     rw [if_pos (by rfl)];unfold Oper.wp;go_simp
     exact ⟨upd f 0 (I mb 0),by simp [upd],zf (U uA) (U HD) (by decide) rfl⟩
    | 1,Z =>
     obtain rfl:=ya Z
     have g:f 0 = I mb 0:=hD 0 (ye D 0 rfl)
     clear D hD xm
     rw [if_pos (by rfl)];unfold Oper.wp;go_simp
     exact ⟨upd f 1 (.agg #[H (next + 1),.slice aq ll.length cq]),by simp [upd,g],zf (U uA) (U HD) (by decide) rfl⟩
    | 2,Z =>
     obtain rfl:=ya Z
     clear D hD xm
     rw [if_pos (by rfl)];unfold Oper.wp;go_simp
     exact ⟨upd f 2 (I (w.heap.size + 1) 0),by simp [upd],zf (U uA) (U HD) (by decide) rfl⟩
    | 3,Z =>
     obtain rfl:=ya Z
     have g:f 2 = I (w.heap.size + 1) 0:=hD 2 (ye D 2 rfl)
     clear D hD xm
     rw [if_pos (by rfl)];unfold Oper.wp;go_simp
     exact ⟨upd f 3 (H s),by simp [upd,g],zf (U uA) (U HD) (by decide) rfl⟩
    | 4,Z =>
     obtain rfl:=ya Z
     have g:f 3 = H s:=hD 3 (ye D 3 rfl)
     clear D hD xm
     rw [if_pos (by rfl)];unfold Oper.wp;go_simp
     refine (otherSide_any s hb).mono ?_
     rw [U HSD]
     rintro e w4 ⟨rfl,rfl⟩
     exact ⟨upd f 4 (H sd),by simp [upd,g],zf (U uA) (U HD) (by decide) rfl⟩
    | 5,Z =>
     obtain rfl:=ya Z
     have g1:f 1 = .agg #[H (next + 1),.slice aq ll.length cq]:=hD 1 (ye D 1 rfl)
     have g4:f 4 = H sd:=hD 4 (ye D 4 rfl)
     have pW:=n12' (by omega) (by omega)
     clear D hD xm
     rw [if_pos (by rfl)];unfold Oper.wp;go_simp
     by_cases uJ:sd = 1
     ·subst uJ
      refine (sideOf_buy (next + 1) _ ll hb (U jE) (U oh).len (U HLB)).mono ?_
      rintro e w4 ⟨b,rfl,ht,jI,xD⟩
      exact ⟨upd f 5 (bW b),by simp [upd,g1,g4],bc (U uA) (U HD) xD (by decide) (dq_grow pW xD) (fun _=>.inl ⟨rfl,b,rfl,ht⟩)⟩
     ·refine (sideOf_sell (next + 1) sd uJ _ ll hb (U jE) (U oh).len (U HLB)).mono ?_
      rintro e w4 ⟨b,rfl,ht,jI,xD⟩
      exact ⟨upd f 5 (bX b),by simp [upd,g1,g4],bc (U uA) (U HD) xD (by decide) (dq_grow pW xD) (fun _=>.inr ⟨uJ,b,rfl,ht⟩)⟩
    | 6,Z =>
     obtain rfl:=ya Z
     have pW:=n12' (by omega) (by omega)
     rcases hD 5 (ye D 5 rfl) pW with ⟨uJ,b,g5,ht⟩ | ⟨uJ,b,g5,ht⟩
     ·subst uJ
      have HT:=Y ht
      have hfl:=field0_bm b hb
      clear D hD xm ht
      rw [if_pos (by rfl)];unfold Oper.wp;go_simp
      exact ⟨upd f 6 (.func (.func 122) #[I b 0] #[]),by simp [upd,g5],zf (U uA) (U HD) (by decide) (fun _=>.inl ⟨rfl,b,rfl,U HT⟩)⟩
     ·have HT:=Y ht
      have hfl:=field0_sm b hb
      clear D hD xm ht
      rw [if_pos (by rfl)];unfold Oper.wp;go_simp
      exact ⟨upd f 6 (.func (.func 126) #[I b 0] #[]),by simp [upd,g5],zf (U uA) (U HD) (by decide) (fun _=>.inr ⟨uJ,b,rfl,U HT⟩)⟩
    | 7,Z =>
     obtain rfl:=ya Z
     have pW:=n12' (by omega) (by omega)
     rcases hD 6 (ye D 6 rfl) pW with ⟨uJ,b,g6,ht⟩ | ⟨uJ,b,g6,ht⟩
     ·subst uJ
      have HT:=Y ht
      have HE:Hid (frOf (quOf true (zA ll 1)) = .tuple #[.agg (yw x.id x.side x.ticks x.left x.life x.tag).toArray,.bool fb]):=by
       show _ = _
       have:=U HFR
       simpa using this
      clear D hD xm ht
      rw [if_pos (by rfl)];unfold Oper.wp;go_simp
      refine (front_b b 1 (zA ll 1) hb (U HT) (yO (List.length_filter_le _ _) (U oh).len)).mono ?_
      rw [U HE]
      rintro e w4 ⟨rfl,xD⟩
      exact ⟨upd f 7 (.tuple #[.agg (yw x.id x.side x.ticks x.left x.life x.tag).toArray,.bool fb]),by simp [upd,g6],bc (U uA) (U HD) xD (by decide) (dq_grow pW xD) rfl⟩
     ·have HT:=Y ht
      have HE:Hid (frOf (quOf false (zA ll sd)) = .tuple #[.agg (yw x.id x.side x.ticks x.left x.life x.tag).toArray,.bool fb]):=by
       have:=U HFR
       rw [decide_eq_false uJ] at this
       exact this
      clear D hD xm ht
      rw [if_pos (by rfl)];unfold Oper.wp;go_simp
      refine (front_s b sd (zA ll sd) hb (U HT) (yO (List.length_filter_le _ _) (U oh).len)).mono ?_
      rw [U HE]
      rintro e w4 ⟨rfl,xD⟩
      exact ⟨upd f 7 (.tuple #[.agg (yw x.id x.side x.ticks x.left x.life x.tag).toArray,.bool fb]),by simp [upd,g6],bc (U uA) (U HD) xD (by decide) (dq_grow pW xD) rfl⟩
    | 8,Z =>
     obtain rfl:=ya Z
     have g:f 7 = .tuple #[.agg (yw x.id x.side x.ticks x.left x.life x.tag).toArray,.bool fb]:=hD 7 (ye D 7 rfl)
     clear D hD xm
     rw [if_pos (by rfl)];unfold Oper.wp;go_simp
     exact ⟨upd f 8 (.tuple #[.agg (yw x.id x.side x.ticks x.left x.life x.tag).toArray,.bool fb]),by simp [upd,g],zf (U uA) (U HD) (by decide) rfl⟩
    | 9,Z =>
     obtain rfl:=ya Z
     have g:f 8 = .tuple #[.agg (yw x.id x.side x.ticks x.left x.life x.tag).toArray,.bool fb]:=hD 8 (ye D 8 rfl)
     clear D hD xm
     rw [if_pos (by rfl)];unfold Oper.wp;go_simp
     exact ⟨upd f 9 (.agg (yw x.id x.side x.ticks x.left x.life x.tag).toArray),by simp [upd,g],zf (U uA) (U HD) (by decide) rfl⟩
    | 10,Z =>
     obtain rfl:=ya Z
     have g:f 8 = .tuple #[.agg (yw x.id x.side x.ticks x.left x.life x.tag).toArray,.bool fb]:=hD 8 (ye D 8 rfl)
     clear D hD xm
     rw [if_pos (by rfl)];unfold Oper.wp;go_simp
     exact ⟨upd f 10 (.bool fb),by simp [upd,g],zf (U uA) (U HD) (by decide) rfl⟩
    | 11,Z =>
     obtain rfl:=ya Z
     have pW:=n12' (by omega) (by omega)
     clear D hD xm
     rw [if_pos (by rfl)];unfold Oper.wp;go_simp
     have xD:=eE hb (E (yw 0 0 0 0 0 ⟨#[]⟩).toArray 49)
     exact ⟨upd f 11 (yp hb 0),by simp [upd],bc (U uA) (U HD) xD (by decide) (dq_grow pW xD) ⟨hb.heap.size,rfl,(U uA).size,fun _=>⟨zw hb (yw 0 0 0 0 0 ⟨#[]⟩) _,by rw [zh]; omega⟩,fun h=>absurd h pW⟩⟩
    | 12,Z =>
     obtain rfl:=ya Z
     have pW:¬ xx[12]? = some true:=by rw [xz]; simp
     have g9:f 9 = .agg (yw x.id x.side x.ticks x.left x.life x.tag).toArray:=hD 9 (ye D 9 rfl)
     obtain ⟨pb,vw,hpb,xF,-⟩:=hD 11 (ye D 11 rfl)
     obtain ⟨xF,hplt⟩:=xF pW
     have jF:=Y xF
     obtain ⟨u0,y0,q0⟩:=zG xF 0 (by omega)
     obtain ⟨u1,y1,q1⟩:=zG xF 1 (by omega)
     obtain ⟨u2,y2,q2⟩:=zG xF 2 (by omega)
     obtain ⟨u3,y3,q3⟩:=zG xF 3 (by omega)
     obtain ⟨u4,y4,q4⟩:=zG xF 4 (by omega)
     obtain ⟨u5,y5,q5⟩:=zG xF 5 (by omega)
     simp only [Nat.zero_add] at y0 q0 y1 q1 y2 q2 y3 q3 y4 q4 y5 q5
     clear D hD xm xF
     rw [if_pos (by rfl)];unfold Oper.wp;go_simp
     refine ⟨upd f 12 M,by simp [upd,g9,vw],rgx_last (zo pb hpb (yw x.id x.side x.ticks x.left x.life x.tag) 0 hb (U uA)) (U HD) xz (fun j R hxj h=>dq_last j R h (fun hj11=>?_)) trivial⟩
     subst hj11
     refine ⟨pb,vw,hpb,fun h=>absurd trivial h,fun _=>⟨?_,?_⟩⟩
     ·exact yY hb pb 0 (yw x.id x.side x.ticks x.left x.life x.tag) (fun j R=>U jF j R)
     ·show pb < (hb.setCells pb 0 (yw x.id x.side x.ticks x.left x.life x.tag)).heap.size
      simp only [World.setCells,World.setCell,Array.size_modify]; exact hplt
    | 13,Z =>
     obtain rfl:=ya Z
     have g:f 10 = .bool fb:=hD 10 (ye D 10 rfl)
     clear D hD xm
     rw [if_pos (by rfl)];unfold Oper.wp;go_simp
     exact ⟨upd f 13 (.bool fb),by simp [upd,g],zf (U uA) (U HD) (by decide) rfl⟩
    | i + 14,Z=>simp at Z
   ·have ai:Hid (ty = (ll,lf,ts)):=mi_done (U hI) pj
    have xF:wr.there (w.heap.size + 1 + 1) 0 9:=fun j R=>by
     have X:=(U hK).block (w.heap.size + 1 + 1) (by have:=U kE; omega) (by have:=U kE; have:=U HMB; omega)
     have:=(U HX).2.2 j R
     rw [yR (a:=(J (w.heap.size + 1 + 1) (0 + j))) X,World.frozen?_of_block (a:=(J (w.heap.size + 1 + 1) (0 + j))) X]
     exact this
    have uo:=Y (match_end (U hM) (U hK) (U xQ) (U kE) (U HMB) [H (next + 1),.slice aq ll.length cq,H next,H s,H (tk pr),H lf,H li,yk O,.slice av ts.length cv] rfl xF)
    have c0:=(U hM).cells 0 _ rfl
    have c1:=(U hM).cells 1 _ rfl
    have c2:=(U hM).cells 2 _ rfl
    have c3:=(U hM).cells 3 _ rfl
    have c4:=(U hM).cells 4 _ rfl
    have c5:=(U hM).cells 5 _ rfl
    have c6:=(U hM).cells 6 _ rfl
    have c7:=(U hM).cells 7 _ rfl
    have c8:=(U hM).cells 8 _ rfl
    simp only [Nat.zero_add] at c0 c1 c2 c3 c4 c5 c6 c7 c8
    obtain ⟨v0,z0,q0⟩:=zG xF 0 (by omega)
    obtain ⟨v1,z1,q1⟩:=zG xF 1 (by omega)
    obtain ⟨v2,z2,q2⟩:=zG xF 2 (by omega)
    obtain ⟨v3,z3,q3⟩:=zG xF 3 (by omega)
    obtain ⟨v4,z4,q4⟩:=zG xF 4 (by omega)
    obtain ⟨v5,z5,q5⟩:=zG xF 5 (by omega)
    obtain ⟨v6,z6,q6⟩:=zG xF 6 (by omega)
    obtain ⟨v7,z7,q7⟩:=zG xF 7 (by omega)
    obtain ⟨v8,z8,q8⟩:=zG xF 8 (by omega)
    simp only [Nat.zero_add] at z0 q0 z1 q1 z2 q2 z3 q3 z4 q4 z5 q5 z6 q6 z7 q7 z8 q8
    clear xF
    go_wp2_with fail
    try simp (config:={ zetaDelta:=true }) only [Exit.noGoto_ret]
    change bodyPost _ _ _ _ _ (wr.setCells (w.heap.size + 1 + 1) 0 [H (next + 1),.slice aq ll.length cq,H next,H s,H (tk pr),H lf,H li,yk O,.slice av ts.length cv])
    generalize wr.setCells (w.heap.size + 1 + 1) 0 [H (next + 1),.slice aq ll.length cq,H next,H s,H (tk pr),H lf,H li,yk O,.slice av ts.length cv] = WE at uo ⊢
    obtain ⟨d0,d1,d2,d3,d4,d5,d6,d7,d8⟩:=yF (U uo).1
    try simp only [Exit.inBlock,Exit.then]
    refine bodyPost_ret (by simp [results,Tryz.results112,go_sem,d0,d1,d2,d3,d4,d5,d6,d7,d8]; try rfl) rfl ?_
    rw [U ai]
    exact ⟨_,_,rfl,(U uo).2.1,(U uo).2.2.1,(U uo).2.2.2⟩
 ·rintro x xn V i op ⟨f,rfl,xm,hD⟩ xp hx Z xz D
  have n8':i < 8→¬ x[8]? = some true:=fun xL h8=>by
   have h7:=yf xp 8 rfl h8 7 rfl
   have h6:=yf xp 8 rfl h8 6 rfl
   have h5:=yf xp 6 rfl h6 5 rfl
   have Q:=yf xp 6 rfl h6 1 rfl
   have h0:=yf xp 1 rfl Q 0 rfl
   have N:=yf xp 5 rfl h5 2 rfl
   have h4:=yf xp 5 rfl h5 4 rfl
   have h3:=yf xp 4 rfl h4 3 rfl
   have ul:∀ j,j < 8→x[j]? = some true:=fun j R=>by
    rcases (by omega:j = 0 ∨ j = 1 ∨ j = 2 ∨ j = 3 ∨ j = 4 ∨ j = 5 ∨ j = 6 ∨ j = 7) with rfl | rfl | rfl | rfl | rfl | rfl | rfl | rfl <;> assumption
   rw [ul i xL] at xz; cases xz
  clear xp
  have xw:=Y xm
  have HD:=Y hD
  have ji:=Y (zn (U HR3) xm tg)
  have z0:=zb (U HX).1 xm (by omega) 0 _ rfl
  have z1:=zb (U HX).1 xm (by omega) 1 _ rfl
  have o0:=zb (U HX).2.1 xm (by omega) 0 _ rfl
  have o1:=zb (U HX).2.1 xm (by omega) 1 _ rfl
  have o2:=zb (U HX).2.1 xm (by omega) 2 _ rfl
  have o3:=zb (U HX).2.1 xm (by omega) 3 _ rfl
  have o4:=zb (U HX).2.1 xm (by omega) 4 _ rfl
  have o5:=zb (U HX).2.1 xm (by omega) 5 _ rfl
  rw [Nat.zero_add] at z0 z1 o0 o1 o2 o3 o4 o5
  clear hw3
  match i,Z with
  | 0,Z =>
   obtain rfl:=ya Z
   clear D hD xm
   rw [if_pos (by rfl)];unfold Oper.wp;go_simp
   exact ⟨upd f 0 (.agg #[H next,.slice a l.length A]),by simp [upd],zf (U xw) (U HD) (by decide) rfl⟩
  | 1,Z =>
   obtain rfl:=ya Z
   have g:f 0 = .agg #[H next,.slice a l.length A]:=hD 0 (ye D 0 rfl)
   have n8:=n8' (by omega)
   clear D hD xm
   rw [if_pos (by rfl)];unfold Oper.wp;go_simp
   refine (copyBook_any next _ l V (U ji) hsl (by omega)).mono ?_
   rintro e w4 ⟨v4,rfl,aH,xD⟩
   obtain ⟨a4,c4,rfl⟩:=rd_lenF (zN aH (by omega))
   exact ⟨upd f 1 (.agg #[H next,.slice a4 l.length c4]),by simp [upd,g],bc (U xw) (U HD) xD (by decide) (dm_grow n8 xD) ⟨a4,c4,rfl,fun _=>cj aH (U xw).size⟩⟩
  | 2,Z =>
   obtain rfl:=ya Z
   clear D hD xm
   rw [if_pos (by rfl)];unfold Oper.wp;go_simp
   exact ⟨upd f 2 (.agg #[H s,H F,H li,H L,yj pr,yk O]),by simp [upd],zf (U xw) (U HD) (by decide) rfl⟩
  | 3,Z =>
   obtain rfl:=ya Z
   clear D hD xm
   rw [if_pos (by rfl)];unfold Oper.wp;go_simp
   exact ⟨upd f 3 (yp w 0),by simp [upd],zf (U xw) (U HD) (by decide) rfl⟩
  | 4,Z =>
   obtain rfl:=ya Z
   have g:f 3 = yp w 0:=hD 3 (ye D 3 rfl)
   clear D hD xm
   rw [if_pos (by rfl)];unfold Oper.wp;go_simp
   exact ⟨upd f 4 (H next),by simp [upd,g],zf (U xw) (U HD) (by decide) rfl⟩
  | 5,Z =>
   obtain rfl:=ya Z
   have g2:f 2 = .agg #[H s,H F,H li,H L,yj pr,yk O]:=hD 2 (ye D 2 rfl)
   have g4:f 4 = H next:=hD 4 (ye D 4 rfl)
   have n8:=n8' (by omega)
   clear D hD xm
   rw [if_pos (by rfl)];unfold Oper.wp;go_simp
   refine (order_any ⟨kk,s,F,li,L,ii,pr,O⟩ next V).mono ?_
   rintro e w4 ⟨rfl,xD⟩
   exact ⟨upd f 5 (.agg (yw next s (tk pr) L li O).toArray),by simp [upd,g2,g4],bc (U xw) (U HD) xD (by decide) (dm_grow n8 xD) rfl⟩
  | 6,Z =>
   obtain rfl:=ya Z
   obtain ⟨a4,c4,g1,vZ⟩:=hD 1 (ye D 1 rfl)
   have g5:f 5 = .agg (yw next s (tk pr) L li O).toArray:=hD 5 (ye D 5 rfl)
   have vn:=Y vZ
   clear D hD xm vZ
   rw [if_pos (by rfl)];unfold Oper.wp;go_simp
   exact ⟨upd f 6 (.agg #[H next,.slice a4 l.length c4,H next,H s,H (tk pr),H L,H li,yk O,.slice none 0 0]),by simp [upd,g1,g5],zf (U xw) (U HD) (by decide) ⟨a4,c4,rfl,U vn⟩⟩
  | 7,Z =>
   obtain rfl:=ya Z
   have n8:=n8' (by omega)
   clear D hD xm
   rw [if_pos (by rfl)];unfold Oper.wp;go_simp
   have xD:=eE V (E #[H 0,.slice none 0 0,H 0,H 0,H 0,H 0,H 0,yk ⟨#[]⟩,.slice none 0 0] 157)
   exact ⟨upd f 7 (yp V 0),by simp [upd],bc (U xw) (U HD) xD (by decide) (dm_grow n8 xD) ⟨V.heap.size,rfl,(U xw).size,fun _=>⟨zw V [H 0,.slice none 0 0,H 0,H 0,H 0,H 0,H 0,yk ⟨#[]⟩,.slice none 0 0] _,_,heap_alloc_new V _⟩,fun h=>absurd h n8⟩⟩
  | 8,Z =>
   obtain rfl:=ya Z
   have n8:¬ x[8]? = some true:=by rw [xz]; simp
   obtain ⟨a4,c4,g6,ho6⟩:=hD 6 (ye D 6 rfl)
   obtain ⟨mb,g7,hmb,xF,-⟩:=hD 7 (ye D 7 rfl)
   obtain ⟨xF,jb⟩:=xF n8
   have HO6:=Y (ho6 n8)
   have jF:=Y xF
   have uA:=Y jb
   obtain ⟨u0,y0,q0⟩:=zG xF 0 (by omega)
   obtain ⟨u1,y1,q1⟩:=zG xF 1 (by omega)
   obtain ⟨u2,y2,q2⟩:=zG xF 2 (by omega)
   obtain ⟨u3,y3,q3⟩:=zG xF 3 (by omega)
   obtain ⟨u4,y4,q4⟩:=zG xF 4 (by omega)
   obtain ⟨u5,y5,q5⟩:=zG xF 5 (by omega)
   obtain ⟨u6,y6,q6⟩:=zG xF 6 (by omega)
   obtain ⟨u7,y7,q7⟩:=zG xF 7 (by omega)
   obtain ⟨u8,y8,q8⟩:=zG xF 8 (by omega)
   simp only [Nat.zero_add] at y0 q0 y1 q1 y2 q2 y3 q3 y4 q4 y5 q5 y6 q6 y7 q7 y8 q8
   clear D hD xm ho6 xF jb
   rw [if_pos (by rfl)];unfold Oper.wp;go_simp
   refine ⟨upd f 8 M,by simp [upd,g6,g7],rgx_last (zo mb hmb [H next,.slice a4 l.length c4,H next,H s,H (tk pr),H L,H li,yk O,.slice none 0 0] 0 V (U xw)) (U HD) xz (fun j R hxj h=>dm_last j R h (fun hj7=>?_)) trivial⟩
   subst hj7
   refine ⟨mb,g7,hmb,fun h=>absurd trivial h,fun _=>⟨a4,c4,?_⟩⟩
   exact matS_made (c:=⟨kk,s,F,li,L,ii,pr,O⟩) (U jF) (U uA) (U HO6) (by have:=(U xw).size; omega)
  | i + 9,Z=>simp at Z
end Go.Proofs.YtbakanofkghmiaaGreat
