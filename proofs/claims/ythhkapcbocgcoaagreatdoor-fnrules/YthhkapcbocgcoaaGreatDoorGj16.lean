/-
  What comes of a new order, by the program: proved by walking the function.
-/
import Derived.Test.YthhkapcbocgcoaaGreatDoorGj15
import Derived.WalkMore
set_option linter.unusedVariables false
set_option maxHeartbeats 6400000
set_option maxRecDepth 100000
namespace Go.Proofs.YthhkapcbocgcoaaGreatDoor
open Go.RowKit
theorem match_any (next:Int) (vb:Value) (l:List Od) (c:Cm) (w:World) (hr:RdR Od.vs 6 w vb l) (hs:SlOk vb) (hg:GoodL l) (h0:0 ≤ next) (Q:next ≤ 1000000) (jO:0 ≤ c.q) (jl:c.q ≤ 1000000) :
  Calls Tryz.prog 210 #[.agg #[H next,vb],noV c] w fun e w'=>∃ vq vt,e = ym (.agg #[H (next + 1),vq,H next,H c.s,H (tk c.p),H (matL c next 21 l c.q []).2.1,H c.l,yk c.g,vt])∧ORow w' w.heap.size vq (matL c next 21 l c.q []).1∧ERow w' w.heap.size vt (matL c next 21 l c.q []).2.2∧yn w w':=by
 have HR:=M hr
 have HG:=M hg
 have hsl:=hs
 have HMI:=M (mi_start (c:=c) (id:=next) hg jO jl)
 have hn:=hg.len
 obtain ⟨a,cap,rfl,xD,hc⟩:=hr
 generalize hF:matL c next 21 l c.q [] = hR at HMI ⊢
 clear hF hc hg hs
 obtain ⟨kk,s,ty,li,qt,ii,pr,tg⟩:=c
 unfold noV
 simp only at *
 have xF:=zi w (O #[H next,.slice a l.length cap] 27)
 have ug:((w.alloc (O #[H next,.slice a l.length cap] 27)).alloc (O #[H s,H ty,H li,H qt,yj pr,yk tg] 63)).heap.size = w.heap.size + 1 + 1:=by rw [zi,xF]
 have jZ:(((w.alloc (O #[H next,.slice a l.length cap] 27)).alloc (O #[H s,H ty,H li,H qt,yj pr,yk tg] 63)).alloc (O #[H 0,.slice none 0 0,H 0,H 0,H 0,H 0,H 0,yk ⟨#[]⟩,.slice none 0 0] 259)).heap.size = w.heap.size + 1 + 1 + 1:=by rw [zi,ug]
 have r1:=zm w [H next,.slice a l.length cap] 27
 have r2:=zm (w.alloc (O #[H next,.slice a l.length cap] 27)) [H s,H ty,H li,H qt,yj pr,yk tg] 63
 rw [xF] at r2
 have t3:=zM ((w.alloc (O #[H next,.slice a l.length cap] 27)).alloc (O #[H s,H ty,H li,H qt,yj pr,yk tg] 63)) [H 0,.slice none 0 0,H 0,H 0,H 0,H 0,H 0,yk ⟨#[]⟩,.slice none 0 0] 259
 rw [ug] at t3
 have xG:Hid (yn w (((w.alloc (O #[H next,.slice a l.length cap] 27)).alloc (O #[H s,H ty,H li,H qt,yj pr,yk tg] 63)).alloc (O #[H 0,.slice none 0 0,H 0,H 0,H 0,H 0,H 0,yk ⟨#[]⟩,.slice none 0 0] 259))):=((gZ _ _).alloc (by rw [xF]; omega) _).alloc (by rw [ug]; omega) _
 have b23:Below (w.heap.size + 1 + 1) ((w.alloc (O #[H next,.slice a l.length cap] 27)).alloc (O #[H s,H ty,H li,H qt,yj pr,yk tg] 63)) (((w.alloc (O #[H next,.slice a l.length cap] 27)).alloc (O #[H s,H ty,H li,H qt,yj pr,yk tg] 63)).alloc (O #[H 0,.slice none 0 0,H 0,H 0,H 0,H 0,H 0,yk ⟨#[]⟩,.slice none 0 0] 259)):=(Below.refl _ _).alloc (by rw [ug]; omega) _
 have qi:Below (w.heap.size + 1) (w.alloc (O #[H next,.slice a l.length cap] 27)) ((w.alloc (O #[H next,.slice a l.length cap] 27)).alloc (O #[H s,H ty,H li,H qt,yj pr,yk tg] 63)):=(Below.refl _ _).alloc (by rw [xF]; omega) _
 have HX:Hid (_∧_∧_):=⟨zc (zc r1 qi (by omega)) b23 (by omega),zc r2 b23 (by omega),t3⟩
 have ji:=M jZ
 clear xF ug jZ r1 r2 t3 b23 qi
 go_enter Tryz.func210,Tryz.ntmps210
 go_wp2_with fail
 go_step3
 go_wp2_with fail
 generalize (((w.alloc (O #[H next,.slice a l.length cap] 27)).alloc (O #[H s,H ty,H li,H qt,yj pr,yk tg] 63)).alloc (O #[H 0,.slice none 0 0,H 0,H 0,H 0,H 0,H 0,yk ⟨#[]⟩,.slice none 0 0] 259)) = W3 at xG HX ji ⊢
 have HX:Hid (W3.rangeAt w.heap.size 0 [H next,.slice a l.length cap]∧W3.rangeAt (w.heap.size + 1) 0 [H s,H ty,H li,H qt,yj pr,yk tg]∧W3.there (w.heap.size + 1 + 1) 0 9):=U HX
 have hw3:W3.heap.size = w.heap.size + 1 + 1 + 1:=U ji
 have pe:=M (zh (U HR) (U xG) hU)
 refine zn (RG W3 (fun f=>{ tmps:=#[.agg #[H next,.slice a l.length cap],.agg #[H s,H ty,H li,H qt,yj pr,yk tg],yp w 0,I (w.heap.size + 1) 0,I (w.heap.size + 1 + 1) 0,f 7,Z,Z,f 0,f 1,f 2,f 3,f 4,f 5,f 6,Z,Z,Z,Z,Z,Z,Z,Z,Z,Z,Z,Z,Z,Z,Z,Z,Z,Z,Z,Z,Z,Z,Z,Z,Z,Z,Z,Z,Z,Z,Z],defers:=[] }) 8 (DM w.heap.size W3.heap.size W3 next a cap l ⟨kk,s,ty,li,qt,ii,pr,tg⟩)) (by kernel_rfl) ?_ ?_ ?_
 ·exact ⟨fun _=>Z,rfl,⟨rfl,rfl,rfl,Nat.le_refl _,fun _ _=>rfl⟩,fun j hj=>by rw [yJ] at hj; split at hj <;> simp at hj⟩
 ·rintro x hb V ⟨f,rfl,xi,hD⟩ hx xN
  have xp:=zX xN hx (acyc _ (by kernel_rfl))
  have k8:x[8]? = some true:=xp 8 (by simp)
  obtain ⟨mb,g7,hmb,-,vU⟩:=hD 7 (xp 7 (by simp))
  obtain ⟨a4,c4,hM⟩:=vU k8
  have HM:=M hM
  have xw:=M xi
  have y0:V.cell? (J mb 0) = some (H next):=hM.cells 0 _ rfl
  have f0:V.frozen? (J mb 0) = false:=by have:=(hM.there 0 (by omega)).2; rwa [Nat.zero_add] at this
  have bd:IntKind.i64.wrap (next + 1) = next + 1:=by rw [IntKind.wrap_i64]; omega
  dsimp only
  simp only [g7]
  generalize f 0 = e0,f 1 = e1,f 2 = e2,f 3 = e3,f 4 = e4,f 5 = e5,f 6 = e6
  clear hD xp xN hx k8 vU hM xi g7 x f
  go_wp2_with fail
  go_step3
  go_wp2_with fail
  have HMB:=M hmb
  clear hw3 hmb y0 f0
  go_loopw [] (fun wr=>∃ vq ll lf vt ts,Hid (MatS mb W3.heap.size wr (next + 1) vq ll ⟨next,s,tk pr,lf,li,tg⟩ vt ts)∧Hid (MI ⟨kk,s,ty,li,qt,ii,pr,tg⟩ next hR ll lf ts)∧Hid (KeptBut mb W3.heap.size W3 wr)) (fun wr=>meas mb wr)
  case atStart=>exact ⟨_,l,qt,_,[],matS_next (U HM) (next + 1),U HMI,eS (gA (U xw) hU) (kept_set V 0 _)⟩
  case round =>
   obtain ⟨vq,ll,lf,vt,ts,hM,hI,hK⟩:=hrel
   have y5:wr.cell? (J mb 5) = some (H lf):=(U hM).cells 5 _ rfl
   obtain ⟨av,cv,rfl⟩:∃ a c,vt = .slice a ts.length c:=by
    rcases (U hM).erow.2 with ⟨e,e2⟩ | ⟨g,cap,xz,e,_⟩
    ·exact ⟨none,0,by rw [e,e2]⟩
    ·exact ⟨_,_,e⟩
   obtain ⟨aq,cq,rfl⟩:∃ a c,vq = .slice a ll.length c:=by
    rcases (U hM).orow.2 with ⟨e,e2⟩ | ⟨g,cap,xz,e,_⟩
    ·exact ⟨none,0,by rw [e,e2]⟩
    ·exact ⟨_,_,e⟩
   by_cases pQ:0 < lf
   ·have kt:=M (U hI).good
    have HLB:Hid (∀ o' ∈ ll,0 ≤ o'.left∧o'.left ≤ 1000000):=fun o' vu=>by have:=(U kt).left o' vu; omega
    have pE:=M (zV (U hM).orow (by have:=(U kt).len; omega))
    generalize ui:othS s = sd
    have HSD:=M ui
    generalize hq:quOf (decide (sd = 1)) (zr ll sd) = q
    have oF:=frOf_eq q
    generalize hx:hdO q = x at oF
    generalize oS:hdF q = fb at oF
    have HFR:Hid (frOf (quOf (decide (sd = 1)) (zr ll sd)) = .tuple #[.agg (yw x.id x.side x.ticks x.left x.life x.tag).toArray,.bool fb]):=by show _ = _; rw [hq]; exact oF
    have HFO:Hid (bT ll (othS s) = if fb = true then some x else none):=by
     show _ = _
     rw [bT,ui,hq,← hx,← oS,hdO,hdF]
     cases q.head? <;> rfl
    clear ui hq oF hx oS q
    have jZ:=U ji
    have hc3:∀ j,wr.cell? (J (w.heap.size + 1) j) = W3.cell? (J (w.heap.size + 1) j):=fun j=>yR (a:=(J (w.heap.size + 1) j)) ((U hK).block (w.heap.size + 1) (by omega) (by have:=U HMB; omega))
    have aw:Hid (wr.rangeAt (w.heap.size + 1) 0 [H s,H ty,H li,H qt,yj pr,yk tg]):=fun j u hj=>(hc3 _).trans ((U HX).2.1 j u hj)
    have hl3:w.heap.size + 1 < wr.heap.size:=by have:=(U hK).size; omega
    clear hc3 jZ
    go_wp2_with fail
    refine zn (RG wr (fun f=>{ tmps:=#[.agg #[H next,.slice a l.length cap],.agg #[H s,H ty,H li,H qt,yj pr,yk tg],yp w 0,I (w.heap.size + 1) 0,I (w.heap.size + 1 + 1) 0,I mb 0,f 11,f 13,e0,e1,e2,e3,e4,e5,e6,I mb 0,I mb 0,H next,H (next + 1),I mb 0,I mb 0,I mb 2,I mb 5,H lf,.bool true,f 8,f 0,f 1,f 2,f 3,f 4,f 5,f 6,f 7,f 9,f 10,u36,u37,u38,u39,u40,u41,u42,u43,u44,Z],defers:=[] }) 12 (DQ mb (w.heap.size + 1) wr (.agg #[H (next + 1),.slice aq ll.length cq]) s sd ll x fb)) (by kernel_rfl) ?_ ?_ ?_
    ·exact ⟨fun j=>if j = 0 then u26 else if j = 1 then u27 else if j = 2 then u28 else if j = 3 then u29 else if j = 4 then u30 else if j = 5 then u31 else if j = 6 then u32 else if j = 7 then u33 else if j = 8 then u25 else if j = 9 then u34 else if j = 10 then u35 else if j = 11 then u6 else if j = 13 then u7 else Z,rfl,⟨rfl,rfl,rfl,Nat.le_refl _,fun _ _=>rfl⟩,fun j hj=>by rw [yJ] at hj; split at hj <;> simp at hj⟩
    ·rintro xx hb h3 ⟨f,rfl,xi,hD⟩ hx xN
     have xp:=zY xN hx (by kernel_rfl)
     have k12:xx[12]? = some true:=xp 12 (by simp)
     have kB:f 13 = .bool fb:=hD 13 (xp 13 (by simp))
     obtain ⟨pb,ql,hpb,-,vU⟩:=hD 11 (xp 11 (by simp))
     obtain ⟨aX,aW⟩:=vU k12
     have jG:=M (fV (U hM) xi)
     have kL:=M (eS (U hK) (gA xi (U hM).le))
     have o0:=zc (U aw) xi hl3 0 _ rfl
     have o1:=zc (U aw) xi hl3 1 _ rfl
     have o2:=zc (U aw) xi hl3 2 _ rfl
     have o3:=zc (U aw) xi hl3 3 _ rfl
     have o4:=zc (U aw) xi hl3 4 _ rfl
     have o5:=zc (U aw) xi hl3 5 _ rfl
     have HRG:=M aX
     obtain ⟨p0,p1,p2,p3,p4,p5⟩:=zC aX
     simp only [Nat.zero_add] at o0 o1 o2 o3 o4 o5 p0 p1 p2 p3 p4 p5
     dsimp only
     simp only [kB,ql]
     generalize f 0 = b0,f 1 = b1,f 2 = b2,f 3 = b3,f 4 = b4,f 5 = b5,f 6 = b6,f 7 = b7,f 8 = b8,f 9 = b9,f 10 = b10
     clear hD xp xN hx k12 vU xi ql kB aX hpb f xx y5
     cases fb
     ·have HFE:Hid (hR = (ll,lf,ts)):=mi_none (U hI) (by have:=U HFO; simpa using this)
      clear o0 o1 o2 o3 o4 o5 p0 p1 p2 p3 p4 p5
      have xV:h3.there (w.heap.size + 1 + 1) 0 9:=fun j hj=>by
       have A:=(U kL).block (w.heap.size + 1 + 1) (by have:=U ji; omega) (by have:=U ji; have:=U HMB; omega)
       have:=(U HX).2.2 j hj
       rw [yR (a:=(J (w.heap.size + 1 + 1) (0 + j))) A,World.frozen?_of_block (a:=(J (w.heap.size + 1 + 1) (0 + j))) A]
       exact this
      have xq:=M (match_end (U jG) (U kL) (U xG) (U ji) (U HMB) [H (next + 1),.slice aq ll.length cq,H next,H s,H (tk pr),H lf,H li,yk tg,.slice av ts.length cv] rfl xV)
      have c0:=(U jG).cells 0 _ rfl
      have c1:=(U jG).cells 1 _ rfl
      have c2:=(U jG).cells 2 _ rfl
      have c3:=(U jG).cells 3 _ rfl
      have c4:=(U jG).cells 4 _ rfl
      have c5:=(U jG).cells 5 _ rfl
      have c6:=(U jG).cells 6 _ rfl
      have c7:=(U jG).cells 7 _ rfl
      have c8:=(U jG).cells 8 _ rfl
      simp only [Nat.zero_add] at c0 c1 c2 c3 c4 c5 c6 c7 c8
      obtain ⟨v0,z0,q0⟩:=zE xV 0 (by omega)
      obtain ⟨v1,z1,q1⟩:=zE xV 1 (by omega)
      obtain ⟨v2,z2,q2⟩:=zE xV 2 (by omega)
      obtain ⟨v3,z3,q3⟩:=zE xV 3 (by omega)
      obtain ⟨v4,z4,q4⟩:=zE xV 4 (by omega)
      obtain ⟨v5,z5,q5⟩:=zE xV 5 (by omega)
      obtain ⟨v6,z6,q6⟩:=zE xV 6 (by omega)
      obtain ⟨v7,z7,q7⟩:=zE xV 7 (by omega)
      obtain ⟨v8,z8,q8⟩:=zE xV 8 (by omega)
      simp only [Nat.zero_add] at z0 q0 z1 q1 z2 q2 z3 q3 z4 q4 z5 q5 z6 q6 z7 q7 z8 q8
      clear xV
      go_wp2_with fail
      try simp (config:={ zetaDelta:=true }) only [Exit.noGoto_ret]
      change bodyPost _ _ _ _ _ (h3.setCells (w.heap.size + 1 + 1) 0 [H (next + 1),.slice aq ll.length cq,H next,H s,H (tk pr),H lf,H li,yk tg,.slice av ts.length cv])
      generalize h3.setCells (w.heap.size + 1 + 1) 0 [H (next + 1),.slice aq ll.length cq,H next,H s,H (tk pr),H lf,H li,yk tg,.slice av ts.length cv] = WE at xq ⊢
      obtain ⟨d0,d1,d2,d3,d4,d5,d6,d7,d8⟩:=yF (U xq).1
      try simp only [Exit.inBlock,Exit.then]
      refine bodyPost_ret (by simp [results,Tryz.results210,go_sem,d0,d1,d2,d3,d4,d5,d6,d7,d8]; try rfl) rfl ?_
      rw [U HFE]
      exact ⟨_,_,rfl,(U xq).2.1,(U xq).2.2.1,(U xq).2.2.2⟩
     ·have HFO:Hid (bT ll (othS s) = some x):=by show _ = _; have:=U HFO; simpa using this
      go_wp2_with fail
      refine (meets_any ⟨kk,s,ty,li,qt,ii,pr,tg⟩ x h3).mono ?_
      rintro e w5 ⟨rfl,uj⟩
      have HM5:=M (fV (U jG) uj)
      have HK5:=M (eS (U kL) (gA uj (U jG).le))
      obtain ⟨s0,s1,s2,s3,s4,s5⟩:=zC (zc (U HRG) uj aW)
      simp only [Nat.zero_add] at s0 s1 s2 s3 s4 s5
      clear o0 o1 o2 o3 o4 o5 p0 p1 p2 p3 p4 p5 uj
      cases hme:cj ⟨kk,s,ty,li,qt,ii,pr,tg⟩ x
      ·have HFE:Hid (hR = (ll,lf,ts)):=mi_stop (U hI) (U HFO) hme
       clear s0 s1 s2 s3 s4 s5 hme
       have xV:w5.there (w.heap.size + 1 + 1) 0 9:=fun j hj=>by
        have A:=(U HK5).block (w.heap.size + 1 + 1) (by have:=U ji; omega) (by have:=U ji; have:=U HMB; omega)
        have:=(U HX).2.2 j hj
        rw [yR (a:=(J (w.heap.size + 1 + 1) (0 + j))) A,World.frozen?_of_block (a:=(J (w.heap.size + 1 + 1) (0 + j))) A]
        exact this
       have xq:=M (match_end (U HM5) (U HK5) (U xG) (U ji) (U HMB) [H (next + 1),.slice aq ll.length cq,H next,H s,H (tk pr),H lf,H li,yk tg,.slice av ts.length cv] rfl xV)
       have c0:=(U HM5).cells 0 _ rfl
       have c1:=(U HM5).cells 1 _ rfl
       have c2:=(U HM5).cells 2 _ rfl
       have c3:=(U HM5).cells 3 _ rfl
       have c4:=(U HM5).cells 4 _ rfl
       have c5:=(U HM5).cells 5 _ rfl
       have c6:=(U HM5).cells 6 _ rfl
       have c7:=(U HM5).cells 7 _ rfl
       have c8:=(U HM5).cells 8 _ rfl
       simp only [Nat.zero_add] at c0 c1 c2 c3 c4 c5 c6 c7 c8
       obtain ⟨v0,z0,q0⟩:=zE xV 0 (by omega)
       obtain ⟨v1,z1,q1⟩:=zE xV 1 (by omega)
       obtain ⟨v2,z2,q2⟩:=zE xV 2 (by omega)
       obtain ⟨v3,z3,q3⟩:=zE xV 3 (by omega)
       obtain ⟨v4,z4,q4⟩:=zE xV 4 (by omega)
       obtain ⟨v5,z5,q5⟩:=zE xV 5 (by omega)
       obtain ⟨v6,z6,q6⟩:=zE xV 6 (by omega)
       obtain ⟨v7,z7,q7⟩:=zE xV 7 (by omega)
       obtain ⟨v8,z8,q8⟩:=zE xV 8 (by omega)
       simp only [Nat.zero_add] at z0 q0 z1 q1 z2 q2 z3 q3 z4 q4 z5 q5 z6 q6 z7 q7 z8 q8
       clear xV
       go_wp2_with fail
       try simp (config:={ zetaDelta:=true }) only [Exit.noGoto_ret]
       change bodyPost _ _ _ _ _ (w5.setCells (w.heap.size + 1 + 1) 0 [H (next + 1),.slice aq ll.length cq,H next,H s,H (tk pr),H lf,H li,yk tg,.slice av ts.length cv])
       generalize w5.setCells (w.heap.size + 1 + 1) 0 [H (next + 1),.slice aq ll.length cq,H next,H s,H (tk pr),H lf,H li,yk tg,.slice av ts.length cv] = WE at xq ⊢
       obtain ⟨d0,d1,d2,d3,d4,d5,d6,d7,d8⟩:=yF (U xq).1
       try simp only [Exit.inBlock,Exit.then]
       refine bodyPost_ret (by simp [results,Tryz.results210,go_sem,d0,d1,d2,d3,d4,d5,d6,d7,d8]; try rfl) rfl ?_
       rw [U HFE]
       exact ⟨_,_,rfl,(U xq).2.1,(U xq).2.2.1,(U xq).2.2.2⟩
      ·obtain ⟨k,vD,hkk,hI6,hms⟩:=mi_step (U hI) pQ (U HFO) hme
       have hxm:=(U kt).left x (yP hkk)
       have vH:Hid (_∧_∧_∧_):=⟨vD,hkk,hI6,hms⟩
       have hl1:=(U hI).l1
       have aT:=(U kt).len
       have hfew:=(U hI).few
       have uO:Hid (0 ≤ lf∧lf ≤ 1000000∧0 ≤ x.left∧x.left ≤ 1000000∧ll.length ≤ 1000∧ts.length ≤ 1000):=⟨by omega,by omega,by omega,by omega,by omega,by omega⟩
       clear vD hkk hI6 hms hme hxm hl1 aT hfew
       go_wp2_with fail
       refine (trade_any mb W3.heap.size (next + 1) _ ll ⟨next,s,tk pr,lf,li,tg⟩ _ ts x k w5 (U HM5) (U vH).1 (U vH).2.1 (U uO).2.2.2.2.1 (U uO).2.2.2.2.2 (U uO).1 (U uO).2.1 (U uO).2.2.1 (U uO).2.2.2.1 _ rfl).mono ?_
       rintro e w6 ⟨uG,vt',rfl,hM6,hK6⟩
       have HM6:=M hM6
       have HK6:=M hK6
       clear hM6 hK6 s0 s1 s2 s3 s4 s5
       go_wp2_with fail
       dsimp only [H,I,J]
       go_roundw
       case rel=>exact ⟨uG,_,_,vt',_,U HM6,(U vH).2.2.1,eS (U HK5) (U HK6)⟩
       case measure =>
        rw [meas_eq (U HM6),meas_eq (U hM)]
        have:=(U vH).2.2.2
        simp only [if_pos pQ]
        exact this
    ·rintro xx hb h3 i op ⟨f,rfl,xi,hD⟩ xo hx Y xu K
     have n12':i ≠ 10→i < 12→¬ xx[12]? = some true:=fun xC xM vX=>by
      have vK:=yf xo 12 rfl vX 11 rfl
      have h9:=yf xo 12 rfl vX 9 rfl
      have h8:=yf xo 9 rfl h9 8 rfl
      have h7:=yf xo 8 rfl h8 7 rfl
      have h6:=yf xo 7 rfl h7 6 rfl
      have h5:=yf xo 6 rfl h6 5 rfl
      have Q:=yf xo 5 rfl h5 1 rfl
      have h4:=yf xo 5 rfl h5 4 rfl
      have h0:=yf xo 1 rfl Q 0 rfl
      have X:=yf xo 4 rfl h4 3 rfl
      have D:=yf xo 3 rfl X 2 rfl
      have vr:∀ j,j ≠ 10→j < 12→xx[j]? = some true:=fun j jM hj=>by
       rcases (by omega:j = 0 ∨ j = 1 ∨ j = 2 ∨ j = 3 ∨ j = 4 ∨ j = 5 ∨ j = 6 ∨ j = 7 ∨ j = 8 ∨ j = 9 ∨ j = 11) with rfl | rfl | rfl | rfl | rfl | rfl | rfl | rfl | rfl | rfl | rfl <;> assumption
      rw [vr i xC xM] at xu; cases xu
     clear xo y5
     have qC:=M xi
     have HD:=M hD
     have jS:=M (zh (U pE) xi hU)
     have z0:=zc (U hM).cells xi (U hM).lt 0 _ rfl
     have z1:=zc (U hM).cells xi (U hM).lt 1 _ rfl
     have o0:=zc (U aw) xi hl3 0 _ rfl
     rw [Nat.zero_add] at z0 z1 o0
     match i,Y with
    | 0,Y =>
     obtain rfl:=ya Y
     clear K hD xi
     rw [if_pos (by rfl)];unfold Oper.wp;go_simp
     exact ⟨upd f 0 (I mb 0),by simp [upd],zf (U qC) (U HD) (by decide) rfl⟩
    | 1,Y =>
     obtain rfl:=ya Y
     have g:f 0 = I mb 0:=hD 0 (ye K 0 rfl)
     clear K hD xi
     rw [if_pos (by rfl)];unfold Oper.wp;go_simp
     exact ⟨upd f 1 (.agg #[H (next + 1),.slice aq ll.length cq]),by simp [upd,g],zf (U qC) (U HD) (by decide) rfl⟩
    | 2,Y =>
     obtain rfl:=ya Y
     clear K hD xi
     rw [if_pos (by rfl)];unfold Oper.wp;go_simp
     exact ⟨upd f 2 (I (w.heap.size + 1) 0),by simp [upd],zf (U qC) (U HD) (by decide) rfl⟩
    | 3,Y =>
     obtain rfl:=ya Y
     have g:f 2 = I (w.heap.size + 1) 0:=hD 2 (ye K 2 rfl)
     clear K hD xi
     rw [if_pos (by rfl)];unfold Oper.wp;go_simp
     exact ⟨upd f 3 (H s),by simp [upd,g],zf (U qC) (U HD) (by decide) rfl⟩
    | 4,Y =>
     obtain rfl:=ya Y
     have g:f 3 = H s:=hD 3 (ye K 3 rfl)
     clear K hD xi
     rw [if_pos (by rfl)];unfold Oper.wp;go_simp
     refine (otherSide_any s h3).mono ?_
     rw [U HSD]
     rintro e w4 ⟨rfl,rfl⟩
     exact ⟨upd f 4 (H sd),by simp [upd,g],zf (U qC) (U HD) (by decide) rfl⟩
    | 5,Y =>
     obtain rfl:=ya Y
     have g1:f 1 = .agg #[H (next + 1),.slice aq ll.length cq]:=hD 1 (ye K 1 rfl)
     have g4:f 4 = H sd:=hD 4 (ye K 4 rfl)
     have bi:=n12' (by omega) (by omega)
     clear K hD xi
     rw [if_pos (by rfl)];unfold Oper.wp;go_simp
     by_cases ui:sd = 1
     ·subst ui
      refine (gG (next + 1) _ ll h3 (U jS) (U kt).len (U HLB)).mono ?_
      rintro e w4 ⟨b,rfl,ht,qx,xy⟩
      exact ⟨upd f 5 (cP b),by simp [upd,g1,g4],cC (U qC) (U HD) xy (by decide) (dq_grow bi xy) (fun _=>.inl ⟨rfl,b,rfl,ht⟩)⟩
     ·refine (gw (next + 1) sd ui _ ll h3 (U jS) (U kt).len (U HLB)).mono ?_
      rintro e w4 ⟨b,rfl,ht,qx,xy⟩
      exact ⟨upd f 5 (cQ b),by simp [upd,g1,g4],cC (U qC) (U HD) xy (by decide) (dq_grow bi xy) (fun _=>.inr ⟨ui,b,rfl,ht⟩)⟩
    | 6,Y =>
     obtain rfl:=ya Y
     have bi:=n12' (by omega) (by omega)
     rcases hD 5 (ye K 5 rfl) bi with ⟨ui,b,g5,ht⟩ | ⟨ui,b,g5,ht⟩
     ·subst ui
      have HT:=M ht
      have hfl:=field0_bm b h3
      clear K hD xi ht
      rw [if_pos (by rfl)];unfold Oper.wp;go_simp
      exact ⟨upd f 6 (.func (.func 164) #[I b 0] #[]),by simp [upd,g5],zf (U qC) (U HD) (by decide) (fun _=>.inl ⟨rfl,b,rfl,U HT⟩)⟩
     ·have HT:=M ht
      have hfl:=field0_sm b h3
      clear K hD xi ht
      rw [if_pos (by rfl)];unfold Oper.wp;go_simp
      exact ⟨upd f 6 (.func (.func 168) #[I b 0] #[]),by simp [upd,g5],zf (U qC) (U HD) (by decide) (fun _=>.inr ⟨ui,b,rfl,U HT⟩)⟩
    | 7,Y =>
     obtain rfl:=ya Y
     have bi:=n12' (by omega) (by omega)
     rcases hD 6 (ye K 6 rfl) bi with ⟨ui,b,g6,ht⟩ | ⟨ui,b,g6,ht⟩
     ·subst ui
      have HT:=M ht
      have HE:Hid (frOf (quOf true (zr ll 1)) = .tuple #[.agg (yw x.id x.side x.ticks x.left x.life x.tag).toArray,.bool fb]):=by
       show _ = _
       have:=U HFR
       simpa using this
      clear K hD xi ht
      rw [if_pos (by rfl)];unfold Oper.wp;go_simp
      refine (front_b b 1 (zr ll 1) h3 (U HT) (yO (List.length_filter_le _ _) (U kt).len)).mono ?_
      rw [U HE]
      rintro e w4 ⟨rfl,xy⟩
      exact ⟨upd f 7 (.tuple #[.agg (yw x.id x.side x.ticks x.left x.life x.tag).toArray,.bool fb]),by simp [upd,g6],cC (U qC) (U HD) xy (by decide) (dq_grow bi xy) rfl⟩
     ·have HT:=M ht
      have HE:Hid (frOf (quOf false (zr ll sd)) = .tuple #[.agg (yw x.id x.side x.ticks x.left x.life x.tag).toArray,.bool fb]):=by
       have:=U HFR
       rw [decide_eq_false ui] at this
       exact this
      clear K hD xi ht
      rw [if_pos (by rfl)];unfold Oper.wp;go_simp
      refine (front_s b sd (zr ll sd) h3 (U HT) (yO (List.length_filter_le _ _) (U kt).len)).mono ?_
      rw [U HE]
      rintro e w4 ⟨rfl,xy⟩
      exact ⟨upd f 7 (.tuple #[.agg (yw x.id x.side x.ticks x.left x.life x.tag).toArray,.bool fb]),by simp [upd,g6],cC (U qC) (U HD) xy (by decide) (dq_grow bi xy) rfl⟩
    | 8,Y =>
     obtain rfl:=ya Y
     have g:f 7 = .tuple #[.agg (yw x.id x.side x.ticks x.left x.life x.tag).toArray,.bool fb]:=hD 7 (ye K 7 rfl)
     clear K hD xi
     rw [if_pos (by rfl)];unfold Oper.wp;go_simp
     exact ⟨upd f 8 (.tuple #[.agg (yw x.id x.side x.ticks x.left x.life x.tag).toArray,.bool fb]),by simp [upd,g],zf (U qC) (U HD) (by decide) rfl⟩
    | 9,Y =>
     obtain rfl:=ya Y
     have g:f 8 = .tuple #[.agg (yw x.id x.side x.ticks x.left x.life x.tag).toArray,.bool fb]:=hD 8 (ye K 8 rfl)
     clear K hD xi
     rw [if_pos (by rfl)];unfold Oper.wp;go_simp
     exact ⟨upd f 9 (.agg (yw x.id x.side x.ticks x.left x.life x.tag).toArray),by simp [upd,g],zf (U qC) (U HD) (by decide) rfl⟩
    | 10,Y =>
     obtain rfl:=ya Y
     have g:f 8 = .tuple #[.agg (yw x.id x.side x.ticks x.left x.life x.tag).toArray,.bool fb]:=hD 8 (ye K 8 rfl)
     clear K hD xi
     rw [if_pos (by rfl)];unfold Oper.wp;go_simp
     exact ⟨upd f 10 (.bool fb),by simp [upd,g],zf (U qC) (U HD) (by decide) rfl⟩
    | 11,Y =>
     obtain rfl:=ya Y
     have bi:=n12' (by omega) (by omega)
     clear K hD xi
     rw [if_pos (by rfl)];unfold Oper.wp;go_simp
     have xy:=gZ h3 (O (yw 0 0 0 0 0 ⟨#[]⟩).toArray 65)
     exact ⟨upd f 11 (yp h3 0),by simp [upd],cC (U qC) (U HD) xy (by decide) (dq_grow bi xy) ⟨h3.heap.size,rfl,(U qC).size,fun _=>⟨zM h3 (yw 0 0 0 0 0 ⟨#[]⟩) _,by rw [zi]; omega⟩,fun h=>absurd h bi⟩⟩
    | 12,Y =>
     obtain rfl:=ya Y
     have bi:¬ xx[12]? = some true:=by rw [xu]; simp
     have g9:f 9 = .agg (yw x.id x.side x.ticks x.left x.life x.tag).toArray:=hD 9 (ye K 9 rfl)
     obtain ⟨pb,ql,hpb,xV,-⟩:=hD 11 (ye K 11 rfl)
     obtain ⟨xV,aW⟩:=xV bi
     have aD:=M xV
     obtain ⟨u0,y0,q0⟩:=zE xV 0 (by omega)
     obtain ⟨u1,y1,q1⟩:=zE xV 1 (by omega)
     obtain ⟨u2,y2,q2⟩:=zE xV 2 (by omega)
     obtain ⟨u3,y3,q3⟩:=zE xV 3 (by omega)
     obtain ⟨u4,y4,q4⟩:=zE xV 4 (by omega)
     obtain ⟨u5,y5,q5⟩:=zE xV 5 (by omega)
     simp only [Nat.zero_add] at y0 q0 y1 q1 y2 q2 y3 q3 y4 q4 y5 q5
     clear K hD xi xV
     rw [if_pos (by rfl)];unfold Oper.wp;go_simp
     refine ⟨upd f 12 Z,by simp [upd,g9,ql],rgx_last (zj pb hpb (yw x.id x.side x.ticks x.left x.life x.tag) 0 h3 (U qC)) (U HD) xu (fun j hj hxj h=>dq_last j hj h (fun hj11=>?_)) trivial⟩
     subst hj11
     refine ⟨pb,ql,hpb,fun h=>absurd trivial h,fun _=>⟨?_,?_⟩⟩
     ·exact yY h3 pb 0 (yw x.id x.side x.ticks x.left x.life x.tag) (fun j hj=>U aD j hj)
     ·show pb < (h3.setCells pb 0 (yw x.id x.side x.ticks x.left x.life x.tag)).heap.size
      simp only [World.setCells,World.setCell,Array.size_modify]; exact aW
    | 13,Y =>
     obtain rfl:=ya Y
     have g:f 10 = .bool fb:=hD 10 (ye K 10 rfl)
     clear K hD xi
     rw [if_pos (by rfl)];unfold Oper.wp;go_simp
     exact ⟨upd f 13 (.bool fb),by simp [upd,g],zf (U qC) (U HD) (by decide) rfl⟩
    | i + 14,Y=>simp at Y
   ·have HFE:Hid (hR = (ll,lf,ts)):=mi_done (U hI) pQ
    have xV:wr.there (w.heap.size + 1 + 1) 0 9:=fun j hj=>by
     have A:=(U hK).block (w.heap.size + 1 + 1) (by have:=U ji; omega) (by have:=U ji; have:=U HMB; omega)
     have:=(U HX).2.2 j hj
     rw [yR (a:=(J (w.heap.size + 1 + 1) (0 + j))) A,World.frozen?_of_block (a:=(J (w.heap.size + 1 + 1) (0 + j))) A]
     exact this
    have xq:=M (match_end (U hM) (U hK) (U xG) (U ji) (U HMB) [H (next + 1),.slice aq ll.length cq,H next,H s,H (tk pr),H lf,H li,yk tg,.slice av ts.length cv] rfl xV)
    have c0:=(U hM).cells 0 _ rfl
    have c1:=(U hM).cells 1 _ rfl
    have c2:=(U hM).cells 2 _ rfl
    have c3:=(U hM).cells 3 _ rfl
    have c4:=(U hM).cells 4 _ rfl
    have c5:=(U hM).cells 5 _ rfl
    have c6:=(U hM).cells 6 _ rfl
    have c7:=(U hM).cells 7 _ rfl
    have c8:=(U hM).cells 8 _ rfl
    simp only [Nat.zero_add] at c0 c1 c2 c3 c4 c5 c6 c7 c8
    obtain ⟨v0,z0,q0⟩:=zE xV 0 (by omega)
    obtain ⟨v1,z1,q1⟩:=zE xV 1 (by omega)
    obtain ⟨v2,z2,q2⟩:=zE xV 2 (by omega)
    obtain ⟨v3,z3,q3⟩:=zE xV 3 (by omega)
    obtain ⟨v4,z4,q4⟩:=zE xV 4 (by omega)
    obtain ⟨v5,z5,q5⟩:=zE xV 5 (by omega)
    obtain ⟨v6,z6,q6⟩:=zE xV 6 (by omega)
    obtain ⟨v7,z7,q7⟩:=zE xV 7 (by omega)
    obtain ⟨v8,z8,q8⟩:=zE xV 8 (by omega)
    simp only [Nat.zero_add] at z0 q0 z1 q1 z2 q2 z3 q3 z4 q4 z5 q5 z6 q6 z7 q7 z8 q8
    clear xV
    go_wp2_with fail
    try simp (config:={ zetaDelta:=true }) only [Exit.noGoto_ret]
    change bodyPost _ _ _ _ _ (wr.setCells (w.heap.size + 1 + 1) 0 [H (next + 1),.slice aq ll.length cq,H next,H s,H (tk pr),H lf,H li,yk tg,.slice av ts.length cv])
    generalize wr.setCells (w.heap.size + 1 + 1) 0 [H (next + 1),.slice aq ll.length cq,H next,H s,H (tk pr),H lf,H li,yk tg,.slice av ts.length cv] = WE at xq ⊢
    obtain ⟨d0,d1,d2,d3,d4,d5,d6,d7,d8⟩:=yF (U xq).1
    try simp only [Exit.inBlock,Exit.then]
    refine bodyPost_ret (by simp [results,Tryz.results210,go_sem,d0,d1,d2,d3,d4,d5,d6,d7,d8]; try rfl) rfl ?_
    rw [U HFE]
    exact ⟨_,_,rfl,(U xq).2.1,(U xq).2.2.1,(U xq).2.2.2⟩
 ·rintro x hb V i op ⟨f,rfl,xi,hD⟩ xo hx Y xu K
  have n8':i < 8→¬ x[8]? = some true:=fun xM h8=>by
   have h7:=yf xo 8 rfl h8 7 rfl
   have h6:=yf xo 8 rfl h8 6 rfl
   have h5:=yf xo 6 rfl h6 5 rfl
   have Q:=yf xo 6 rfl h6 1 rfl
   have h0:=yf xo 1 rfl Q 0 rfl
   have D:=yf xo 5 rfl h5 2 rfl
   have h4:=yf xo 5 rfl h5 4 rfl
   have X:=yf xo 4 rfl h4 3 rfl
   have vr:∀ j,j < 8→x[j]? = some true:=fun j hj=>by
    rcases (by omega:j = 0 ∨ j = 1 ∨ j = 2 ∨ j = 3 ∨ j = 4 ∨ j = 5 ∨ j = 6 ∨ j = 7) with rfl | rfl | rfl | rfl | rfl | rfl | rfl | rfl <;> assumption
   rw [vr i xM] at xu; cases xu
  clear xo
  have xw:=M xi
  have HD:=M hD
  have qh:=M (zh (U pe) xi hU)
  have z0:=zc (U HX).1 xi (by omega) 0 _ rfl
  have z1:=zc (U HX).1 xi (by omega) 1 _ rfl
  have o0:=zc (U HX).2.1 xi (by omega) 0 _ rfl
  have o1:=zc (U HX).2.1 xi (by omega) 1 _ rfl
  have o2:=zc (U HX).2.1 xi (by omega) 2 _ rfl
  have o3:=zc (U HX).2.1 xi (by omega) 3 _ rfl
  have o4:=zc (U HX).2.1 xi (by omega) 4 _ rfl
  have o5:=zc (U HX).2.1 xi (by omega) 5 _ rfl
  rw [Nat.zero_add] at z0 z1 o0 o1 o2 o3 o4 o5
  clear hw3
  match i,Y with
  | 0,Y =>
   obtain rfl:=ya Y
   clear K hD xi
   rw [if_pos (by rfl)];unfold Oper.wp;go_simp
   exact ⟨upd f 0 (.agg #[H next,.slice a l.length cap]),by simp [upd],zf (U xw) (U HD) (by decide) rfl⟩
  | 1,Y =>
   obtain rfl:=ya Y
   have g:f 0 = .agg #[H next,.slice a l.length cap]:=hD 0 (ye K 0 rfl)
   have n8:=n8' (by omega)
   clear K hD xi
   rw [if_pos (by rfl)];unfold Oper.wp;go_simp
   refine (copyBook_any next _ l V (U qh) hsl (by omega)).mono ?_
   rintro e w4 ⟨v4,rfl,pv,xy⟩
   obtain ⟨a4,c4,rfl⟩:=rd_lenF (zV pv (by omega))
   exact ⟨upd f 1 (.agg #[H next,.slice a4 l.length c4]),by simp [upd,g],cC (U xw) (U HD) xy (by decide) (dm_grow n8 xy) ⟨a4,c4,rfl,fun _=>dE pv (U xw).size⟩⟩
  | 2,Y =>
   obtain rfl:=ya Y
   clear K hD xi
   rw [if_pos (by rfl)];unfold Oper.wp;go_simp
   exact ⟨upd f 2 (.agg #[H s,H ty,H li,H qt,yj pr,yk tg]),by simp [upd],zf (U xw) (U HD) (by decide) rfl⟩
  | 3,Y =>
   obtain rfl:=ya Y
   clear K hD xi
   rw [if_pos (by rfl)];unfold Oper.wp;go_simp
   exact ⟨upd f 3 (yp w 0),by simp [upd],zf (U xw) (U HD) (by decide) rfl⟩
  | 4,Y =>
   obtain rfl:=ya Y
   have g:f 3 = yp w 0:=hD 3 (ye K 3 rfl)
   clear K hD xi
   rw [if_pos (by rfl)];unfold Oper.wp;go_simp
   exact ⟨upd f 4 (H next),by simp [upd,g],zf (U xw) (U HD) (by decide) rfl⟩
  | 5,Y =>
   obtain rfl:=ya Y
   have g2:f 2 = .agg #[H s,H ty,H li,H qt,yj pr,yk tg]:=hD 2 (ye K 2 rfl)
   have g4:f 4 = H next:=hD 4 (ye K 4 rfl)
   have n8:=n8' (by omega)
   clear K hD xi
   rw [if_pos (by rfl)];unfold Oper.wp;go_simp
   refine (order_any ⟨kk,s,ty,li,qt,ii,pr,tg⟩ next V).mono ?_
   rintro e w4 ⟨rfl,xy⟩
   exact ⟨upd f 5 (.agg (yw next s (tk pr) qt li tg).toArray),by simp [upd,g2,g4],cC (U xw) (U HD) xy (by decide) (dm_grow n8 xy) rfl⟩
  | 6,Y =>
   obtain rfl:=ya Y
   obtain ⟨a4,c4,g1,qA⟩:=hD 1 (ye K 1 rfl)
   have g5:f 5 = .agg (yw next s (tk pr) qt li tg).toArray:=hD 5 (ye K 5 rfl)
   have vv:=M qA
   clear K hD xi qA
   rw [if_pos (by rfl)];unfold Oper.wp;go_simp
   exact ⟨upd f 6 (.agg #[H next,.slice a4 l.length c4,H next,H s,H (tk pr),H qt,H li,yk tg,.slice none 0 0]),by simp [upd,g1,g5],zf (U xw) (U HD) (by decide) ⟨a4,c4,rfl,U vv⟩⟩
  | 7,Y =>
   obtain rfl:=ya Y
   have n8:=n8' (by omega)
   clear K hD xi
   rw [if_pos (by rfl)];unfold Oper.wp;go_simp
   have xy:=gZ V (O #[H 0,.slice none 0 0,H 0,H 0,H 0,H 0,H 0,yk ⟨#[]⟩,.slice none 0 0] 259)
   exact ⟨upd f 7 (yp V 0),by simp [upd],cC (U xw) (U HD) xy (by decide) (dm_grow n8 xy) ⟨V.heap.size,rfl,(U xw).size,fun _=>⟨zM V [H 0,.slice none 0 0,H 0,H 0,H 0,H 0,H 0,yk ⟨#[]⟩,.slice none 0 0] _,_,heap_alloc_new V _⟩,fun h=>absurd h n8⟩⟩
  | 8,Y =>
   obtain rfl:=ya Y
   have n8:¬ x[8]? = some true:=by rw [xu]; simp
   obtain ⟨a4,c4,g6,ho6⟩:=hD 6 (ye K 6 rfl)
   obtain ⟨mb,g7,hmb,xV,-⟩:=hD 7 (ye K 7 rfl)
   obtain ⟨xV,qG⟩:=xV n8
   have HO6:=M (ho6 n8)
   have aD:=M xV
   have qC:=M qG
   obtain ⟨u0,y0,q0⟩:=zE xV 0 (by omega)
   obtain ⟨u1,y1,q1⟩:=zE xV 1 (by omega)
   obtain ⟨u2,y2,q2⟩:=zE xV 2 (by omega)
   obtain ⟨u3,y3,q3⟩:=zE xV 3 (by omega)
   obtain ⟨u4,y4,q4⟩:=zE xV 4 (by omega)
   obtain ⟨u5,y5,q5⟩:=zE xV 5 (by omega)
   obtain ⟨u6,y6,q6⟩:=zE xV 6 (by omega)
   obtain ⟨u7,y7,q7⟩:=zE xV 7 (by omega)
   obtain ⟨u8,y8,q8⟩:=zE xV 8 (by omega)
   simp only [Nat.zero_add] at y0 q0 y1 q1 y2 q2 y3 q3 y4 q4 y5 q5 y6 q6 y7 q7 y8 q8
   clear K hD xi ho6 xV qG
   rw [if_pos (by rfl)];unfold Oper.wp;go_simp
   refine ⟨upd f 8 Z,by simp [upd,g6,g7],rgx_last (zj mb hmb [H next,.slice a4 l.length c4,H next,H s,H (tk pr),H qt,H li,yk tg,.slice none 0 0] 0 V (U xw)) (U HD) xu (fun j hj hxj h=>dm_last j hj h (fun hj7=>?_)) trivial⟩
   subst hj7
   refine ⟨mb,g7,hmb,fun h=>absurd trivial h,fun _=>⟨a4,c4,?_⟩⟩
   exact matS_made (c:=⟨kk,s,ty,li,qt,ii,pr,tg⟩) (U aD) (U qC) (U HO6) (by have:=(U xw).size; omega)
  | i + 9,Y=>simp at Y
theorem eF {c:Cm} {id:Int}:∀ (n:Nat) (l:List Od) (left:Int) (ts:List Ev),GoodL l→0 ≤ left→left ≤ 1000000→GoodL (matL c id n l left ts).1∧0 ≤ (matL c id n l left ts).2.1∧(matL c id n l left ts).2.1 ≤ 1000000
 | 0,l,left,ts,h,h0,Q=>⟨h,h0,Q⟩
 | n + 1,l,left,ts,h,h0,Q=>by
  rw [matL]
  by_cases hl:0 < left
  ·rw [if_pos hl]
   cases hf:bT l (othS c.s) with
   | none=>exact ⟨h,h0,Q⟩
   | some o =>
    simp only
    by_cases hm:cj c o = true
    ·rw [if_pos hm]
     obtain ⟨uC,_⟩:=ek hf
     obtain ⟨k,E⟩:=List.getElem?_of_mem uC
     have Y:=h.left o uC
     rw [dN h.rise E,Int.toNat_natCast]
     exact eF n _ _ _ (dP h E (by omega) (by omega)).1 (by omega) (by omega)
    ·rw [if_neg hm]; exact ⟨h,h0,Q⟩
  ·rw [if_neg hl]; exact ⟨h,h0,Q⟩
def matR (next:Int) (c:Cm) (hR:List Od × Int × List Ev):Int :=
 if c.t = 5∧0 < hR.2.2.length then 11 else if c.t = 4∧0 < hR.2.1 then 12 else if next = 1000000 then 13
 else if bR c.t = true∧0 < hR.2.1 then (if cY (hR.1 ++ [{ ordO c next with left:=hR.2.1 }]) = true then 13 else 0) else 0
end Go.Proofs.YthhkapcbocgcoaaGreatDoor
