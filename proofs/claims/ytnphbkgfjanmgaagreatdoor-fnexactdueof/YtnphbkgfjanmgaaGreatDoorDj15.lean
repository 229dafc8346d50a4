/-
  What comes of a new order, by the program: proved by walking the function.
-/
import Derived.Test.YtnphbkgfjanmgaaGreatDoorDj14
import Derived.WalkMore
set_option linter.unusedVariables false
set_option maxHeartbeats 6400000
set_option maxRecDepth 100000
namespace Go.Proofs.YtnphbkgfjanmgaaGreatDoor
open Go.RowKit
theorem match_any (next:Int) (vb:Value) (l:List Od) (c:Cm) (w:World) (hr:RdR Od.vs 6 w vb l) (hs:SlOk vb) (hg:GoodL l) (h0:0 ≤ next) (N:next ≤ 1000000) (pZ:0 ≤ c.q) (oK:c.q ≤ 1000000) :
  Calls Tryz.prog 211 #[.agg #[I next,vb],noV c] w fun e w'=>∃ vq vt,e = yn (.agg #[I (next + 1),vq,I next,I c.s,I (tk c.p),I (matL c next 21 l c.q []).2.1,I c.l,yl c.g,vt])∧ORow w' w.heap.size vq (matL c next 21 l c.q []).1∧ERow w' w.heap.size vt (matL c next 21 l c.q []).2.2∧yp w w':=by
 have HR:=H hr
 have HG:=H hg
 have hsl:=hs
 have HMI:=H (mi_start (c:=c) (id:=next) hg pZ oK)
 have hn:=hg.len
 obtain ⟨a,cap,rfl,xA,hc⟩:=hr
 generalize hF:matL c next 21 l c.q [] = cl at HMI ⊢
 clear hF hc hg hs
 obtain ⟨kk,s,ty,li,qt,ii,pr,tg⟩:=c
 unfold noV
 simp only at *
 have xK:=zj w (L #[I next,.slice a l.length cap] 34)
 have uf:((w.alloc (L #[I next,.slice a l.length cap] 34)).alloc (L #[I s,I ty,I li,I qt,yk pr,yl tg] 85)).heap.size = w.heap.size + 1 + 1:=by rw [zj,xK]
 have jJ:(((w.alloc (L #[I next,.slice a l.length cap] 34)).alloc (L #[I s,I ty,I li,I qt,yk pr,yl tg] 85)).alloc (L #[I 0,.slice none 0 0,I 0,I 0,I 0,I 0,I 0,yl ⟨#[]⟩,.slice none 0 0] 254)).heap.size = w.heap.size + 1 + 1 + 1:=by rw [zj,uf]
 have r1:=zn w [I next,.slice a l.length cap] 34
 have r2:=zn (w.alloc (L #[I next,.slice a l.length cap] 34)) [I s,I ty,I li,I qt,yk pr,yl tg] 85
 rw [xK] at r2
 have t3:=zY ((w.alloc (L #[I next,.slice a l.length cap] 34)).alloc (L #[I s,I ty,I li,I qt,yk pr,yl tg] 85)) [I 0,.slice none 0 0,I 0,I 0,I 0,I 0,I 0,yl ⟨#[]⟩,.slice none 0 0] 254
 rw [uf] at t3
 have xN:Hid (yp w (((w.alloc (L #[I next,.slice a l.length cap] 34)).alloc (L #[I s,I ty,I li,I qt,yk pr,yl tg] 85)).alloc (L #[I 0,.slice none 0 0,I 0,I 0,I 0,I 0,I 0,yl ⟨#[]⟩,.slice none 0 0] 254))):=((fw _ _).alloc (by rw [xK]; omega) _).alloc (by rw [uf]; omega) _
 have b23:Below (w.heap.size + 1 + 1) ((w.alloc (L #[I next,.slice a l.length cap] 34)).alloc (L #[I s,I ty,I li,I qt,yk pr,yl tg] 85)) (((w.alloc (L #[I next,.slice a l.length cap] 34)).alloc (L #[I s,I ty,I li,I qt,yk pr,yl tg] 85)).alloc (L #[I 0,.slice none 0 0,I 0,I 0,I 0,I 0,I 0,yl ⟨#[]⟩,.slice none 0 0] 254)):=(Below.refl _ _).alloc (by rw [uf]; omega) _
 have qv:Below (w.heap.size + 1) (w.alloc (L #[I next,.slice a l.length cap] 34)) ((w.alloc (L #[I next,.slice a l.length cap] 34)).alloc (L #[I s,I ty,I li,I qt,yk pr,yl tg] 85)):=(Below.refl _ _).alloc (by rw [xK]; omega) _
 have HX:Hid (_∧_∧_):=⟨zc (zc r1 qv (by omega)) b23 (by omega),zc r2 b23 (by omega),t3⟩
 have vU:=H jJ
 clear xK uf jJ r1 r2 t3 b23 qv
 go_enter Tryz.func211,Tryz.ntmps211
 go_wp2_with fail
 go_step3
 go_wp2_with fail
 generalize (((w.alloc (L #[I next,.slice a l.length cap] 34)).alloc (L #[I s,I ty,I li,I qt,yk pr,yl tg] 85)).alloc (L #[I 0,.slice none 0 0,I 0,I 0,I 0,I 0,I 0,yl ⟨#[]⟩,.slice none 0 0] 254)) = W3 at xN HX vU ⊢
 have HX:Hid (W3.rangeAt w.heap.size 0 [I next,.slice a l.length cap]∧W3.rangeAt (w.heap.size + 1) 0 [I s,I ty,I li,I qt,yk pr,yl tg]∧W3.there (w.heap.size + 1 + 1) 0 9):=U HX
 have oM:W3.heap.size = w.heap.size + 1 + 1 + 1:=U vU
 have ax:=H (zh (U HR) (U xN) yb)
 refine zm (RG W3 (fun f=>{ tmps:=#[.agg #[I next,.slice a l.length cap],.agg #[I s,I ty,I li,I qt,yk pr,yl tg],yq w 0,J (w.heap.size + 1) 0,J (w.heap.size + 1 + 1) 0,f 7,M,M,f 0,f 1,f 2,f 3,f 4,f 5,f 6,M,M,M,M,M,M,M,M,M,M,M,M,M,M,M,M,M,M,M,M,M,M,M,M,M,M,M,M,M,M,M],defers:=[] }) 8 (DM w.heap.size W3.heap.size W3 next a cap l ⟨kk,s,ty,li,qt,ii,pr,tg⟩)) (by kernel_rfl) ?_ ?_ ?_
 ·exact ⟨fun _=>M,rfl,⟨rfl,rfl,rfl,Nat.le_refl _,fun _ _=>rfl⟩,fun j V=>by rw [yJ] at V; split at V <;> simp at V⟩
 ·rintro x cs hj ⟨f,rfl,xl,hD⟩ hx xO
  have xq:=zN xO hx (acyc _ (by kernel_rfl))
  have k8:x[8]? = some true:=xq 8 (by simp)
  obtain ⟨mb,g7,hmb,-,qy⟩:=hD 7 (xq 7 (by simp))
  obtain ⟨a4,c4,hM⟩:=qy k8
  have HM:=H hM
  have xE:=H xl
  have y0:hj.cell? (Q mb 0) = some (I next):=hM.cells 0 _ rfl
  have f0:hj.frozen? (Q mb 0) = false:=by have:=(hM.there 0 (by omega)).2; rwa [Nat.zero_add] at this
  have hwr:IntKind.i64.wrap (next + 1) = next + 1:=by rw [IntKind.wrap_i64]; omega
  dsimp only
  simp only [g7]
  generalize f 0 = e0,f 1 = e1,f 2 = e2,f 3 = e3,f 4 = e4,f 5 = e5,f 6 = e6
  clear hD xq xO hx k8 qy hM xl g7 x f
  go_wp2_with fail
  go_step3
  go_wp2_with fail
  have HMB:=H hmb
  clear oM hmb y0 f0
  go_loopw [] (fun wr=>∃ vq ll lf vt ts,Hid (MatS mb W3.heap.size wr (next + 1) vq ll ⟨next,s,tk pr,lf,li,tg⟩ vt ts)∧Hid (MI ⟨kk,s,ty,li,qt,ii,pr,tg⟩ next cl ll lf ts)∧Hid (KeptBut mb W3.heap.size W3 wr)) (fun wr=>meas mb wr)
  case atStart=>exact ⟨_,l,qt,_,[],matS_next (U HM) (next + 1),U HMI,df (eH (U xE) yb) (kept_set hj 0 _)⟩
  case round =>
   obtain ⟨vq,ll,lf,vt,ts,hM,hI,hK⟩:=hrel
   have y5:wr.cell? (Q mb 5) = some (I lf):=(U hM).cells 5 _ rfl
   obtain ⟨av,cv,rfl⟩:∃ a c,vt = .slice a ts.length c:=by
    rcases (U hM).erow.2 with ⟨e,e2⟩ | ⟨g,cap,xF,e,_⟩
    ·exact ⟨none,0,by rw [e,e2]⟩
    ·exact ⟨_,_,e⟩
   obtain ⟨aq,cq,rfl⟩:∃ a c,vq = .slice a ll.length c:=by
    rcases (U hM).orow.2 with ⟨e,e2⟩ | ⟨g,cap,xF,e,_⟩
    ·exact ⟨none,0,by rw [e,e2]⟩
    ·exact ⟨_,_,e⟩
   by_cases py:0 < lf
   ·have qK:=H (U hI).good
    have HLB:Hid (∀ o' ∈ ll,0 ≤ o'.left∧o'.left ≤ 1000000):=fun o' vM=>by have:=(U qK).left o' vM; omega
    have HRW:=H (zK (U hM).orow (by have:=(U qK).len; omega))
    generalize uS:othS s = sd
    have HSD:=H uS
    generalize hq:quOf (decide (sd = 1)) (zt ll sd) = q
    have kf:=frOf_eq q
    generalize hx:hdO q = x at kf
    generalize oI:hdF q = fb at kf
    have HFR:Hid (frOf (quOf (decide (sd = 1)) (zt ll sd)) = .tuple #[.agg (yx x.id x.side x.ticks x.left x.life x.tag).toArray,.bool fb]):=by show _ = _; rw [hq]; exact kf
    have HFO:Hid (aR ll (othS s) = if fb = true then some x else none):=by
     show _ = _
     rw [aR,uS,hq,← hx,← oI,hdO,hdF]
     cases q.head? <;> rfl
    clear uS hq kf hx oI q
    have jJ:=U vU
    have hc3:∀ j,wr.cell? (Q (w.heap.size + 1) j) = W3.cell? (Q (w.heap.size + 1) j):=fun j=>yR (a:=(Q (w.heap.size + 1) j)) ((U hK).block (w.heap.size + 1) (by omega) (by have:=U HMB; omega))
    have oB:Hid (wr.rangeAt (w.heap.size + 1) 0 [I s,I ty,I li,I qt,yk pr,yl tg]):=fun j u V=>(hc3 _).trans ((U HX).2.1 j u V)
    have hl3:w.heap.size + 1 < wr.heap.size:=by have:=(U hK).size; omega
    clear hc3 jJ
    go_wp2_with fail
    refine zm (RG wr (fun f=>{ tmps:=#[.agg #[I next,.slice a l.length cap],.agg #[I s,I ty,I li,I qt,yk pr,yl tg],yq w 0,J (w.heap.size + 1) 0,J (w.heap.size + 1 + 1) 0,J mb 0,f 11,f 13,e0,e1,e2,e3,e4,e5,e6,J mb 0,J mb 0,I next,I (next + 1),J mb 0,J mb 0,J mb 2,J mb 5,I lf,.bool true,f 8,f 0,f 1,f 2,f 3,f 4,f 5,f 6,f 7,f 9,f 10,u36,u37,u38,u39,u40,u41,u42,u43,u44,M],defers:=[] }) 12 (DQ mb (w.heap.size + 1) wr (.agg #[I (next + 1),.slice aq ll.length cq]) s sd ll x fb)) (by kernel_rfl) ?_ ?_ ?_
    ·exact ⟨fun j=>if j = 0 then u26 else if j = 1 then u27 else if j = 2 then u28 else if j = 3 then u29 else if j = 4 then u30 else if j = 5 then u31 else if j = 6 then u32 else if j = 7 then u33 else if j = 8 then u25 else if j = 9 then u34 else if j = 10 then u35 else if j = 11 then u6 else if j = 13 then u7 else M,rfl,⟨rfl,rfl,rfl,Nat.le_refl _,fun _ _=>rfl⟩,fun j V=>by rw [yJ] at V; split at V <;> simp at V⟩
    ·rintro xx cs xo ⟨f,rfl,xl,hD⟩ hx xO
     have xq:=bT xO hx (by kernel_rfl)
     have kj:xx[12]? = some true:=xq 12 (by simp)
     have qI:f 13 = .bool fb:=hD 13 (xq 13 (by simp))
     obtain ⟨pb,vE,hpb,-,qy⟩:=hD 11 (xq 11 (by simp))
     obtain ⟨hrg,pY⟩:=qy kj
     have xR:=H (eb (U hM) xl)
     have oP:=H (df (U hK) (eH xl (U hM).le))
     have o0:=zc (U oB) xl hl3 0 _ rfl
     have o1:=zc (U oB) xl hl3 1 _ rfl
     have o2:=zc (U oB) xl hl3 2 _ rfl
     have o3:=zc (U oB) xl hl3 3 _ rfl
     have o4:=zc (U oB) xl hl3 4 _ rfl
     have o5:=zc (U oB) xl hl3 5 _ rfl
     have HRG:=H hrg
     obtain ⟨p0,p1,p2,p3,p4,p5⟩:=zB hrg
     simp only [Nat.zero_add] at o0 o1 o2 o3 o4 o5 p0 p1 p2 p3 p4 p5
     dsimp only
     simp only [qI,vE]
     generalize f 0 = b0,f 1 = b1,f 2 = b2,f 3 = b3,f 4 = b4,f 5 = b5,f 6 = b6,f 7 = b7,f 8 = b8,f 9 = b9,f 10 = b10
     clear hD xq xO hx kj qy xl vE qI hrg hpb f xx y5
     cases fb
     ·have HFE:Hid (cl = (ll,lf,ts)):=mi_none (U hI) (by have:=U HFO; simpa using this)
      clear o0 o1 o2 o3 o4 o5 p0 p1 p2 p3 p4 p5
      have xZ:xo.there (w.heap.size + 1 + 1) 0 9:=fun j V=>by
       have E:=(U oP).block (w.heap.size + 1 + 1) (by have:=U vU; omega) (by have:=U vU; have:=U HMB; omega)
       have:=(U HX).2.2 j V
       rw [yR (a:=(Q (w.heap.size + 1 + 1) (0 + j))) E,World.frozen?_of_block (a:=(Q (w.heap.size + 1 + 1) (0 + j))) E]
       exact this
      have xp:=H (match_end (U xR) (U oP) (U xN) (U vU) (U HMB) [I (next + 1),.slice aq ll.length cq,I next,I s,I (tk pr),I lf,I li,yl tg,.slice av ts.length cv] rfl xZ)
      have c0:=(U xR).cells 0 _ rfl
      have c1:=(U xR).cells 1 _ rfl
      have c2:=(U xR).cells 2 _ rfl
      have c3:=(U xR).cells 3 _ rfl
      have c4:=(U xR).cells 4 _ rfl
      have c5:=(U xR).cells 5 _ rfl
      have c6:=(U xR).cells 6 _ rfl
      have c7:=(U xR).cells 7 _ rfl
      have c8:=(U xR).cells 8 _ rfl
      simp only [Nat.zero_add] at c0 c1 c2 c3 c4 c5 c6 c7 c8
      obtain ⟨v0,z0,q0⟩:=zG xZ 0 (by omega)
      obtain ⟨v1,z1,q1⟩:=zG xZ 1 (by omega)
      obtain ⟨v2,z2,q2⟩:=zG xZ 2 (by omega)
      obtain ⟨v3,z3,q3⟩:=zG xZ 3 (by omega)
      obtain ⟨v4,z4,q4⟩:=zG xZ 4 (by omega)
      obtain ⟨v5,z5,q5⟩:=zG xZ 5 (by omega)
      obtain ⟨v6,z6,q6⟩:=zG xZ 6 (by omega)
      obtain ⟨v7,z7,q7⟩:=zG xZ 7 (by omega)
      obtain ⟨v8,z8,q8⟩:=zG xZ 8 (by omega)
      simp only [Nat.zero_add] at z0 q0 z1 q1 z2 q2 z3 q3 z4 q4 z5 q5 z6 q6 z7 q7 z8 q8
      clear xZ
      go_wp2_with fail
      try simp (config:={ zetaDelta:=true }) only [Exit.noGoto_ret]
      change bodyPost _ _ _ _ _ (xo.setCells (w.heap.size + 1 + 1) 0 [I (next + 1),.slice aq ll.length cq,I next,I s,I (tk pr),I lf,I li,yl tg,.slice av ts.length cv])
      generalize xo.setCells (w.heap.size + 1 + 1) 0 [I (next + 1),.slice aq ll.length cq,I next,I s,I (tk pr),I lf,I li,yl tg,.slice av ts.length cv] = WE at xp ⊢
      obtain ⟨d0,d1,d2,d3,d4,d5,d6,d7,d8⟩:=yF (U xp).1
      try simp only [Exit.inBlock,Exit.then]
      refine bodyPost_ret (by simp [results,Tryz.results211,go_sem,d0,d1,d2,d3,d4,d5,d6,d7,d8]; try rfl) rfl ?_
      rw [U HFE]
      exact ⟨_,_,rfl,(U xp).2.1,(U xp).2.2.1,(U xp).2.2.2⟩
     ·have HFO:Hid (aR ll (othS s) = some x):=by show _ = _; have:=U HFO; simpa using this
      go_wp2_with fail
      refine (meets_any ⟨kk,s,ty,li,qt,ii,pr,tg⟩ x xo).mono ?_
      rintro e w5 ⟨rfl,uh⟩
      have vy:=H (eb (U xR) uh)
      have HK5:=H (df (U oP) (eH uh (U xR).le))
      obtain ⟨s0,s1,s2,s3,s4,s5⟩:=zB (zc (U HRG) uh pY)
      simp only [Nat.zero_add] at s0 s1 s2 s3 s4 s5
      clear o0 o1 o2 o3 o4 o5 p0 p1 p2 p3 p4 p5 uh
      cases hme:bp ⟨kk,s,ty,li,qt,ii,pr,tg⟩ x
      ·have HFE:Hid (cl = (ll,lf,ts)):=mi_stop (U hI) (U HFO) hme
       clear s0 s1 s2 s3 s4 s5 hme
       have xZ:w5.there (w.heap.size + 1 + 1) 0 9:=fun j V=>by
        have E:=(U HK5).block (w.heap.size + 1 + 1) (by have:=U vU; omega) (by have:=U vU; have:=U HMB; omega)
        have:=(U HX).2.2 j V
        rw [yR (a:=(Q (w.heap.size + 1 + 1) (0 + j))) E,World.frozen?_of_block (a:=(Q (w.heap.size + 1 + 1) (0 + j))) E]
        exact this
       have xp:=H (match_end (U vy) (U HK5) (U xN) (U vU) (U HMB) [I (next + 1),.slice aq ll.length cq,I next,I s,I (tk pr),I lf,I li,yl tg,.slice av ts.length cv] rfl xZ)
       have c0:=(U vy).cells 0 _ rfl
       have c1:=(U vy).cells 1 _ rfl
       have c2:=(U vy).cells 2 _ rfl
       have c3:=(U vy).cells 3 _ rfl
       have c4:=(U vy).cells 4 _ rfl
       have c5:=(U vy).cells 5 _ rfl
       have c6:=(U vy).cells 6 _ rfl
       have c7:=(U vy).cells 7 _ rfl
       have c8:=(U vy).cells 8 _ rfl
       simp only [Nat.zero_add] at c0 c1 c2 c3 c4 c5 c6 c7 c8
       obtain ⟨v0,z0,q0⟩:=zG xZ 0 (by omega)
       obtain ⟨v1,z1,q1⟩:=zG xZ 1 (by omega)
       obtain ⟨v2,z2,q2⟩:=zG xZ 2 (by omega)
       obtain ⟨v3,z3,q3⟩:=zG xZ 3 (by omega)
       obtain ⟨v4,z4,q4⟩:=zG xZ 4 (by omega)
       obtain ⟨v5,z5,q5⟩:=zG xZ 5 (by omega)
       obtain ⟨v6,z6,q6⟩:=zG xZ 6 (by omega)
       obtain ⟨v7,z7,q7⟩:=zG xZ 7 (by omega)
       obtain ⟨v8,z8,q8⟩:=zG xZ 8 (by omega)
       simp only [Nat.zero_add] at z0 q0 z1 q1 z2 q2 z3 q3 z4 q4 z5 q5 z6 q6 z7 q7 z8 q8
       clear xZ
       go_wp2_with fail
       try simp (config:={ zetaDelta:=true }) only [Exit.noGoto_ret]
       change bodyPost _ _ _ _ _ (w5.setCells (w.heap.size + 1 + 1) 0 [I (next + 1),.slice aq ll.length cq,I next,I s,I (tk pr),I lf,I li,yl tg,.slice av ts.length cv])
       generalize w5.setCells (w.heap.size + 1 + 1) 0 [I (next + 1),.slice aq ll.length cq,I next,I s,I (tk pr),I lf,I li,yl tg,.slice av ts.length cv] = WE at xp ⊢
       obtain ⟨d0,d1,d2,d3,d4,d5,d6,d7,d8⟩:=yF (U xp).1
       try simp only [Exit.inBlock,Exit.then]
       refine bodyPost_ret (by simp [results,Tryz.results211,go_sem,d0,d1,d2,d3,d4,d5,d6,d7,d8]; try rfl) rfl ?_
       rw [U HFE]
       exact ⟨_,_,rfl,(U xp).2.1,(U xp).2.2.1,(U xp).2.2.2⟩
      ·obtain ⟨k,uM,hkk,hI6,hms⟩:=mi_step (U hI) py (U HFO) hme
       have hxm:=(U qK).left x (yP hkk)
       have vZ:Hid (_∧_∧_∧_):=⟨uM,hkk,hI6,hms⟩
       have hl1:=(U hI).l1
       have hl20:=(U qK).len
       have hfew:=(U hI).few
       have vO:Hid (0 ≤ lf∧lf ≤ 1000000∧0 ≤ x.left∧x.left ≤ 1000000∧ll.length ≤ 1000∧ts.length ≤ 1000):=⟨by omega,by omega,by omega,by omega,by omega,by omega⟩
       clear uM hkk hI6 hms hme hxm hl1 hl20 hfew
       go_wp2_with fail
       refine (trade_any mb W3.heap.size (next + 1) _ ll ⟨next,s,tk pr,lf,li,tg⟩ _ ts x k w5 (U vy) (U vZ).1 (U vZ).2.1 (U vO).2.2.2.2.1 (U vO).2.2.2.2.2 (U vO).1 (U vO).2.1 (U vO).2.2.1 (U vO).2.2.2.1 _ rfl).mono ?_
       rintro e w6 ⟨uE,vt',rfl,hM6,hK6⟩
       have HM6:=H hM6
       have HK6:=H hK6
       clear hM6 hK6 s0 s1 s2 s3 s4 s5
       go_wp2_with fail
       dsimp only [I,J,Q]
       go_roundw
       case rel=>exact ⟨uE,_,_,vt',_,U HM6,(U vZ).2.2.1,df (U HK5) (U HK6)⟩
       case measure =>
        rw [meas_eq (U HM6),meas_eq (U hM)]
        have:=(U vZ).2.2.2
        simp only [if_pos py]
        exact this
    ·rintro xx cs xo i op ⟨f,rfl,xl,hD⟩ X hx Z xr D
     have n12':i ≠ 10→i < 12→¬ xx[12]? = some true:=fun xD xJ uK=>by
      have uR:=yh X 12 rfl uK 11 rfl
      have h9:=yh X 12 rfl uK 9 rfl
      have h8:=yh X 9 rfl h9 8 rfl
      have h7:=yh X 8 rfl h8 7 rfl
      have h6:=yh X 7 rfl h7 6 rfl
      have h5:=yh X 6 rfl h6 5 rfl
      have N:=yh X 5 rfl h5 1 rfl
      have h4:=yh X 5 rfl h5 4 rfl
      have h0:=yh X 1 rfl N 0 rfl
      have h3:=yh X 4 rfl h4 3 rfl
      have Y:=yh X 3 rfl h3 2 rfl
      have vK:∀ j,j ≠ 10→j < 12→xx[j]? = some true:=fun j hj0 V=>by
       rcases (by omega:j = 0 ∨ j = 1 ∨ j = 2 ∨ j = 3 ∨ j = 4 ∨ j = 5 ∨ j = 6 ∨ j = 7 ∨ j = 8 ∨ j = 9 ∨ j = 11) with rfl | rfl | rfl | rfl | rfl | rfl | rfl | rfl | rfl | rfl | rfl <;> assumption
      rw [vK i xD xJ] at xr; cases xr
     clear X y5
     have qB:=H xl
     have HD:=H hD
     have jM:=H (zh (U HRW) xl yb)
     have z0:=zc (U hM).cells xl (U hM).lt 0 _ rfl
     have z1:=zc (U hM).cells xl (U hM).lt 1 _ rfl
     have o0:=zc (U oB) xl hl3 0 _ rfl
     rw [Nat.zero_add] at z0 z1 o0
     match i,Z with
    | 0,Z =>
     obtain rfl:=yc Z
     clear D hD xl
     rw [if_pos (by rfl)];unfold Oper.wp;go_simp
     exact ⟨upd f 0 (J mb 0),by simp [upd],zg (U qB) (U HD) (by decide) rfl⟩
    | 1,Z =>
     obtain rfl:=yc Z
     have g:f 0 = J mb 0:=hD 0 (yf D 0 rfl)
     clear D hD xl
     rw [if_pos (by rfl)];unfold Oper.wp;go_simp
     exact ⟨upd f 1 (.agg #[I (next + 1),.slice aq ll.length cq]),by simp [upd,g],zg (U qB) (U HD) (by decide) rfl⟩
    | 2,Z =>
     obtain rfl:=yc Z
     clear D hD xl
     rw [if_pos (by rfl)];unfold Oper.wp;go_simp
     exact ⟨upd f 2 (J (w.heap.size + 1) 0),by simp [upd],zg (U qB) (U HD) (by decide) rfl⟩
    | 3,Z =>
     obtain rfl:=yc Z
     have g:f 2 = J (w.heap.size + 1) 0:=hD 2 (yf D 2 rfl)
     clear D hD xl
     rw [if_pos (by rfl)];unfold Oper.wp;go_simp
     exact ⟨upd f 3 (I s),by simp [upd,g],zg (U qB) (U HD) (by decide) rfl⟩
    | 4,Z =>
     obtain rfl:=yc Z
     have g:f 3 = I s:=hD 3 (yf D 3 rfl)
     clear D hD xl
     rw [if_pos (by rfl)];unfold Oper.wp;go_simp
     refine (otherSide_any s xo).mono ?_
     rw [U HSD]
     rintro e w4 ⟨rfl,rfl⟩
     exact ⟨upd f 4 (I sd),by simp [upd,g],zg (U qB) (U HD) (by decide) rfl⟩
    | 5,Z =>
     obtain rfl:=yc Z
     have g1:f 1 = .agg #[I (next + 1),.slice aq ll.length cq]:=hD 1 (yf D 1 rfl)
     have g4:f 4 = I sd:=hD 4 (yf D 4 rfl)
     have vo:=n12' (by omega) (by omega)
     clear D hD xl
     rw [if_pos (by rfl)];unfold Oper.wp;go_simp
     by_cases uS:sd = 1
     ·subst uS
      refine (eP (next + 1) _ ll xo (U jM) (U qK).len (U HLB)).mono ?_
      rintro e w4 ⟨b,rfl,ht,qj,xy⟩
      exact ⟨upd f 5 (bE b),by simp [upd,g1,g4],bc (U qB) (U HD) xy (by decide) (dq_grow vo xy) (fun _=>.inl ⟨rfl,b,rfl,ht⟩)⟩
     ·refine (ez (next + 1) sd uS _ ll xo (U jM) (U qK).len (U HLB)).mono ?_
      rintro e w4 ⟨b,rfl,ht,qj,xy⟩
      exact ⟨upd f 5 (bF b),by simp [upd,g1,g4],bc (U qB) (U HD) xy (by decide) (dq_grow vo xy) (fun _=>.inr ⟨uS,b,rfl,ht⟩)⟩
    | 6,Z =>
     obtain rfl:=yc Z
     have vo:=n12' (by omega) (by omega)
     rcases hD 5 (yf D 5 rfl) vo with ⟨uS,b,g5,ht⟩ | ⟨uS,b,g5,ht⟩
     ·subst uS
      have HT:=H ht
      have hfl:=field0_bm b xo
      clear D hD xl ht
      rw [if_pos (by rfl)];unfold Oper.wp;go_simp
      exact ⟨upd f 6 (.func (.func 166) #[J b 0] #[]),by simp [upd,g5],zg (U qB) (U HD) (by decide) (fun _=>.inl ⟨rfl,b,rfl,U HT⟩)⟩
     ·have HT:=H ht
      have hfl:=field0_sm b xo
      clear D hD xl ht
      rw [if_pos (by rfl)];unfold Oper.wp;go_simp
      exact ⟨upd f 6 (.func (.func 170) #[J b 0] #[]),by simp [upd,g5],zg (U qB) (U HD) (by decide) (fun _=>.inr ⟨uS,b,rfl,U HT⟩)⟩
    | 7,Z =>
     obtain rfl:=yc Z
     have vo:=n12' (by omega) (by omega)
     rcases hD 6 (yf D 6 rfl) vo with ⟨uS,b,g6,ht⟩ | ⟨uS,b,g6,ht⟩
     ·subst uS
      have HT:=H ht
      have HE:Hid (frOf (quOf true (zt ll 1)) = .tuple #[.agg (yx x.id x.side x.ticks x.left x.life x.tag).toArray,.bool fb]):=by
       show _ = _
       have:=U HFR
       simpa using this
      clear D hD xl ht
      rw [if_pos (by rfl)];unfold Oper.wp;go_simp
      refine (front_b b 1 (zt ll 1) xo (U HT) (yO (List.length_filter_le _ _) (U qK).len)).mono ?_
      rw [U HE]
      rintro e w4 ⟨rfl,xy⟩
      exact ⟨upd f 7 (.tuple #[.agg (yx x.id x.side x.ticks x.left x.life x.tag).toArray,.bool fb]),by simp [upd,g6],bc (U qB) (U HD) xy (by decide) (dq_grow vo xy) rfl⟩
     ·have HT:=H ht
      have HE:Hid (frOf (quOf false (zt ll sd)) = .tuple #[.agg (yx x.id x.side x.ticks x.left x.life x.tag).toArray,.bool fb]):=by
       have:=U HFR
       rw [decide_eq_false uS] at this
       exact this
      clear D hD xl ht
      rw [if_pos (by rfl)];unfold Oper.wp;go_simp
      refine (front_s b sd (zt ll sd) xo (U HT) (yO (List.length_filter_le _ _) (U qK).len)).mono ?_
      rw [U HE]
      rintro e w4 ⟨rfl,xy⟩
      exact ⟨upd f 7 (.tuple #[.agg (yx x.id x.side x.ticks x.left x.life x.tag).toArray,.bool fb]),by simp [upd,g6],bc (U qB) (U HD) xy (by decide) (dq_grow vo xy) rfl⟩
    | 8,Z =>
     obtain rfl:=yc Z
     have g:f 7 = .tuple #[.agg (yx x.id x.side x.ticks x.left x.life x.tag).toArray,.bool fb]:=hD 7 (yf D 7 rfl)
     clear D hD xl
     rw [if_pos (by rfl)];unfold Oper.wp;go_simp
     exact ⟨upd f 8 (.tuple #[.agg (yx x.id x.side x.ticks x.left x.life x.tag).toArray,.bool fb]),by simp [upd,g],zg (U qB) (U HD) (by decide) rfl⟩
    | 9,Z =>
     obtain rfl:=yc Z
     have g:f 8 = .tuple #[.agg (yx x.id x.side x.ticks x.left x.life x.tag).toArray,.bool fb]:=hD 8 (yf D 8 rfl)
     clear D hD xl
     rw [if_pos (by rfl)];unfold Oper.wp;go_simp
     exact ⟨upd f 9 (.agg (yx x.id x.side x.ticks x.left x.life x.tag).toArray),by simp [upd,g],zg (U qB) (U HD) (by decide) rfl⟩
    | 10,Z =>
     obtain rfl:=yc Z
     have g:f 8 = .tuple #[.agg (yx x.id x.side x.ticks x.left x.life x.tag).toArray,.bool fb]:=hD 8 (yf D 8 rfl)
     clear D hD xl
     rw [if_pos (by rfl)];unfold Oper.wp;go_simp
     exact ⟨upd f 10 (.bool fb),by simp [upd,g],zg (U qB) (U HD) (by decide) rfl⟩
    | 11,Z =>
     obtain rfl:=yc Z
     have vo:=n12' (by omega) (by omega)
     clear D hD xl
     rw [if_pos (by rfl)];unfold Oper.wp;go_simp
     have xy:=fw xo (L (yx 0 0 0 0 0 ⟨#[]⟩).toArray 78)
     exact ⟨upd f 11 (yq xo 0),by simp [upd],bc (U qB) (U HD) xy (by decide) (dq_grow vo xy) ⟨xo.heap.size,rfl,(U qB).size,fun _=>⟨zY xo (yx 0 0 0 0 0 ⟨#[]⟩) _,by rw [zj]; omega⟩,fun h=>absurd h vo⟩⟩
    | 12,Z =>
     obtain rfl:=yc Z
     have vo:¬ xx[12]? = some true:=by rw [xr]; simp
     have g9:f 9 = .agg (yx x.id x.side x.ticks x.left x.life x.tag).toArray:=hD 9 (yf D 9 rfl)
     obtain ⟨pb,vE,hpb,xZ,-⟩:=hD 11 (yf D 11 rfl)
     obtain ⟨xZ,pY⟩:=xZ vo
     have HTH:=H xZ
     obtain ⟨u0,y0,q0⟩:=zG xZ 0 (by omega)
     obtain ⟨u1,y1,q1⟩:=zG xZ 1 (by omega)
     obtain ⟨u2,y2,q2⟩:=zG xZ 2 (by omega)
     obtain ⟨u3,y3,q3⟩:=zG xZ 3 (by omega)
     obtain ⟨u4,y4,q4⟩:=zG xZ 4 (by omega)
     obtain ⟨u5,y5,q5⟩:=zG xZ 5 (by omega)
     simp only [Nat.zero_add] at y0 q0 y1 q1 y2 q2 y3 q3 y4 q4 y5 q5
     clear D hD xl xZ
     rw [if_pos (by rfl)];unfold Oper.wp;go_simp
     refine ⟨upd f 12 M,by simp [upd,g9,vE],rgx_last (zi pb hpb (yx x.id x.side x.ticks x.left x.life x.tag) 0 xo (U qB)) (U HD) xr (fun j V hxj h=>dq_last j V h (fun hj11=>?_)) trivial⟩
     subst hj11
     refine ⟨pb,vE,hpb,fun h=>absurd trivial h,fun _=>⟨?_,?_⟩⟩
     ·exact yY xo pb 0 (yx x.id x.side x.ticks x.left x.life x.tag) (fun j V=>U HTH j V)
     ·show pb < (xo.setCells pb 0 (yx x.id x.side x.ticks x.left x.life x.tag)).heap.size
      simp only [World.setCells,World.setCell,Array.size_modify]; exact pY
    | 13,Z =>
     obtain rfl:=yc Z
     have g:f 10 = .bool fb:=hD 10 (yf D 10 rfl)
     clear D hD xl
     rw [if_pos (by rfl)];unfold Oper.wp;go_simp
     exact ⟨upd f 13 (.bool fb),by simp [upd,g],zg (U qB) (U HD) (by decide) rfl⟩
    | i + 14,Z=>simp at Z
   ·have HFE:Hid (cl = (ll,lf,ts)):=mi_done (U hI) py
    have xZ:wr.there (w.heap.size + 1 + 1) 0 9:=fun j V=>by
     have E:=(U hK).block (w.heap.size + 1 + 1) (by have:=U vU; omega) (by have:=U vU; have:=U HMB; omega)
     have:=(U HX).2.2 j V
     rw [yR (a:=(Q (w.heap.size + 1 + 1) (0 + j))) E,World.frozen?_of_block (a:=(Q (w.heap.size + 1 + 1) (0 + j))) E]
     exact this
    have xp:=H (match_end (U hM) (U hK) (U xN) (U vU) (U HMB) [I (next + 1),.slice aq ll.length cq,I next,I s,I (tk pr),I lf,I li,yl tg,.slice av ts.length cv] rfl xZ)
    have c0:=(U hM).cells 0 _ rfl
    have c1:=(U hM).cells 1 _ rfl
    have c2:=(U hM).cells 2 _ rfl
    have c3:=(U hM).cells 3 _ rfl
    have c4:=(U hM).cells 4 _ rfl
    have c5:=(U hM).cells 5 _ rfl
    have c6:=(U hM).cells 6 _ rfl
    have c7:=(U hM).cells 7 _ rfl
    have c8:=(U hM).cells 8 _ rfl
    simp only [Nat.zero_add] at c0 c1 c2 c3 c4 c5 c6 c7 c8
    obtain ⟨v0,z0,q0⟩:=zG xZ 0 (by omega)
    obtain ⟨v1,z1,q1⟩:=zG xZ 1 (by omega)
    obtain ⟨v2,z2,q2⟩:=zG xZ 2 (by omega)
    obtain ⟨v3,z3,q3⟩:=zG xZ 3 (by omega)
    obtain ⟨v4,z4,q4⟩:=zG xZ 4 (by omega)
    obtain ⟨v5,z5,q5⟩:=zG xZ 5 (by omega)
    obtain ⟨v6,z6,q6⟩:=zG xZ 6 (by omega)
    obtain ⟨v7,z7,q7⟩:=zG xZ 7 (by omega)
    obtain ⟨v8,z8,q8⟩:=zG xZ 8 (by omega)
    simp only [Nat.zero_add] at z0 q0 z1 q1 z2 q2 z3 q3 z4 q4 z5 q5 z6 q6 z7 q7 z8 q8
    clear xZ
    go_wp2_with fail
    try simp (config:={ zetaDelta:=true }) only [Exit.noGoto_ret]
    change bodyPost _ _ _ _ _ (wr.setCells (w.heap.size + 1 + 1) 0 [I (next + 1),.slice aq ll.length cq,I next,I s,I (tk pr),I lf,I li,yl tg,.slice av ts.length cv])
    generalize wr.setCells (w.heap.size + 1 + 1) 0 [I (next + 1),.slice aq ll.length cq,I next,I s,I (tk pr),I lf,I li,yl tg,.slice av ts.length cv] = WE at xp ⊢
    obtain ⟨d0,d1,d2,d3,d4,d5,d6,d7,d8⟩:=yF (U xp).1
    try simp only [Exit.inBlock,Exit.then]
    refine bodyPost_ret (by simp [results,Tryz.results211,go_sem,d0,d1,d2,d3,d4,d5,d6,d7,d8]; try rfl) rfl ?_
    rw [U HFE]
    exact ⟨_,_,rfl,(U xp).2.1,(U xp).2.2.1,(U xp).2.2.2⟩
 ·rintro x cs hj i op ⟨f,rfl,xl,hD⟩ X hx Z xr D
  have n8':i < 8→¬ x[8]? = some true:=fun xJ h8=>by
   have h7:=yh X 8 rfl h8 7 rfl
   have h6:=yh X 8 rfl h8 6 rfl
   have h5:=yh X 6 rfl h6 5 rfl
   have N:=yh X 6 rfl h6 1 rfl
   have h0:=yh X 1 rfl N 0 rfl
   have Y:=yh X 5 rfl h5 2 rfl
   have h4:=yh X 5 rfl h5 4 rfl
   have h3:=yh X 4 rfl h4 3 rfl
   have vK:∀ j,j < 8→x[j]? = some true:=fun j V=>by
    rcases (by omega:j = 0 ∨ j = 1 ∨ j = 2 ∨ j = 3 ∨ j = 4 ∨ j = 5 ∨ j = 6 ∨ j = 7) with rfl | rfl | rfl | rfl | rfl | rfl | rfl | rfl <;> assumption
   rw [vK i xJ] at xr; cases xr
  clear X
  have xE:=H xl
  have HD:=H hD
  have uN:=H (zh (U ax) xl yb)
  have z0:=zc (U HX).1 xl (by omega) 0 _ rfl
  have z1:=zc (U HX).1 xl (by omega) 1 _ rfl
  have o0:=zc (U HX).2.1 xl (by omega) 0 _ rfl
  have o1:=zc (U HX).2.1 xl (by omega) 1 _ rfl
  have o2:=zc (U HX).2.1 xl (by omega) 2 _ rfl
  have o3:=zc (U HX).2.1 xl (by omega) 3 _ rfl
  have o4:=zc (U HX).2.1 xl (by omega) 4 _ rfl
  have o5:=zc (U HX).2.1 xl (by omega) 5 _ rfl
  rw [Nat.zero_add] at z0 z1 o0 o1 o2 o3 o4 o5
  clear oM
  match i,Z with
  | 0,Z =>
   obtain rfl:=yc Z
   clear D hD xl
   rw [if_pos (by rfl)];unfold Oper.wp;go_simp
   exact ⟨upd f 0 (.agg #[I next,.slice a l.length cap]),by simp [upd],zg (U xE) (U HD) (by decide) rfl⟩
  | 1,Z =>
   obtain rfl:=yc Z
   have g:f 0 = .agg #[I next,.slice a l.length cap]:=hD 0 (yf D 0 rfl)
   have n8:=n8' (by omega)
   clear D hD xl
   rw [if_pos (by rfl)];unfold Oper.wp;go_simp
   refine (copyBook_any next _ l hj (U uN) hsl (by omega)).mono ?_
   rintro e w4 ⟨v4,rfl,ho4,xy⟩
   obtain ⟨a4,c4,rfl⟩:=cd (zK ho4 (by omega))
   exact ⟨upd f 1 (.agg #[I next,.slice a4 l.length c4]),by simp [upd,g],bc (U xE) (U HD) xy (by decide) (dm_grow n8 xy) ⟨a4,c4,rfl,fun _=>zS ho4 (U xE).size⟩⟩
  | 2,Z =>
   obtain rfl:=yc Z
   clear D hD xl
   rw [if_pos (by rfl)];unfold Oper.wp;go_simp
   exact ⟨upd f 2 (.agg #[I s,I ty,I li,I qt,yk pr,yl tg]),by simp [upd],zg (U xE) (U HD) (by decide) rfl⟩
  | 3,Z =>
   obtain rfl:=yc Z
   clear D hD xl
   rw [if_pos (by rfl)];unfold Oper.wp;go_simp
   exact ⟨upd f 3 (yq w 0),by simp [upd],zg (U xE) (U HD) (by decide) rfl⟩
  | 4,Z =>
   obtain rfl:=yc Z
   have g:f 3 = yq w 0:=hD 3 (yf D 3 rfl)
   clear D hD xl
   rw [if_pos (by rfl)];unfold Oper.wp;go_simp
   exact ⟨upd f 4 (I next),by simp [upd,g],zg (U xE) (U HD) (by decide) rfl⟩
  | 5,Z =>
   obtain rfl:=yc Z
   have g2:f 2 = .agg #[I s,I ty,I li,I qt,yk pr,yl tg]:=hD 2 (yf D 2 rfl)
   have g4:f 4 = I next:=hD 4 (yf D 4 rfl)
   have n8:=n8' (by omega)
   clear D hD xl
   rw [if_pos (by rfl)];unfold Oper.wp;go_simp
   refine (order_any ⟨kk,s,ty,li,qt,ii,pr,tg⟩ next hj).mono ?_
   rintro e w4 ⟨rfl,xy⟩
   exact ⟨upd f 5 (.agg (yx next s (tk pr) qt li tg).toArray),by simp [upd,g2,g4],bc (U xE) (U HD) xy (by decide) (dm_grow n8 xy) rfl⟩
  | 6,Z =>
   obtain rfl:=yc Z
   obtain ⟨a4,c4,g1,kK⟩:=hD 1 (yf D 1 rfl)
   have g5:f 5 = .agg (yx next s (tk pr) qt li tg).toArray:=hD 5 (yf D 5 rfl)
   have qW:=H kK
   clear D hD xl kK
   rw [if_pos (by rfl)];unfold Oper.wp;go_simp
   exact ⟨upd f 6 (.agg #[I next,.slice a4 l.length c4,I next,I s,I (tk pr),I qt,I li,yl tg,.slice none 0 0]),by simp [upd,g1,g5],zg (U xE) (U HD) (by decide) ⟨a4,c4,rfl,U qW⟩⟩
  | 7,Z =>
   obtain rfl:=yc Z
   have n8:=n8' (by omega)
   clear D hD xl
   rw [if_pos (by rfl)];unfold Oper.wp;go_simp
   have xy:=fw hj (L #[I 0,.slice none 0 0,I 0,I 0,I 0,I 0,I 0,yl ⟨#[]⟩,.slice none 0 0] 254)
   exact ⟨upd f 7 (yq hj 0),by simp [upd],bc (U xE) (U HD) xy (by decide) (dm_grow n8 xy) ⟨hj.heap.size,rfl,(U xE).size,fun _=>⟨zY hj [I 0,.slice none 0 0,I 0,I 0,I 0,I 0,I 0,yl ⟨#[]⟩,.slice none 0 0] _,_,heap_alloc_new hj _⟩,fun h=>absurd h n8⟩⟩
  | 8,Z =>
   obtain rfl:=yc Z
   have n8:¬ x[8]? = some true:=by rw [xr]; simp
   obtain ⟨a4,c4,g6,ho6⟩:=hD 6 (yf D 6 rfl)
   obtain ⟨mb,g7,hmb,xZ,-⟩:=hD 7 (yf D 7 rfl)
   obtain ⟨xZ,kA⟩:=xZ n8
   have pG:=H (ho6 n8)
   have HTH:=H xZ
   have qB:=H kA
   obtain ⟨u0,y0,q0⟩:=zG xZ 0 (by omega)
   obtain ⟨u1,y1,q1⟩:=zG xZ 1 (by omega)
   obtain ⟨u2,y2,q2⟩:=zG xZ 2 (by omega)
   obtain ⟨u3,y3,q3⟩:=zG xZ 3 (by omega)
   obtain ⟨u4,y4,q4⟩:=zG xZ 4 (by omega)
   obtain ⟨u5,y5,q5⟩:=zG xZ 5 (by omega)
   obtain ⟨u6,y6,q6⟩:=zG xZ 6 (by omega)
   obtain ⟨u7,y7,q7⟩:=zG xZ 7 (by omega)
   obtain ⟨u8,y8,q8⟩:=zG xZ 8 (by omega)
   simp only [Nat.zero_add] at y0 q0 y1 q1 y2 q2 y3 q3 y4 q4 y5 q5 y6 q6 y7 q7 y8 q8
   clear D hD xl ho6 xZ kA
   rw [if_pos (by rfl)];unfold Oper.wp;go_simp
   refine ⟨upd f 8 M,by simp [upd,g6,g7],rgx_last (zi mb hmb [I next,.slice a4 l.length c4,I next,I s,I (tk pr),I qt,I li,yl tg,.slice none 0 0] 0 hj (U xE)) (U HD) xr (fun j V hxj h=>dm_last j V h (fun hj7=>?_)) trivial⟩
   subst hj7
   refine ⟨mb,g7,hmb,fun h=>absurd trivial h,fun _=>⟨a4,c4,?_⟩⟩
   exact matS_made (c:=⟨kk,s,ty,li,qt,ii,pr,tg⟩) (U HTH) (U qB) (U pG) (by have:=(U xE).size; omega)
  | i + 9,Z=>simp at Z
theorem matL_good {c:Cm} {id:Int}:∀ (n:Nat) (l:List Od) (left:Int) (ts:List Ev),GoodL l→0 ≤ left→left ≤ 1000000→GoodL (matL c id n l left ts).1∧0 ≤ (matL c id n l left ts).2.1∧(matL c id n l left ts).2.1 ≤ 1000000
 | 0,l,left,ts,h,h0,N=>⟨h,h0,N⟩
 | n + 1,l,left,ts,h,h0,N=>by
  rw [matL]
  by_cases hl:0 < left
  ·rw [if_pos hl]
   cases hf:aR l (othS c.s) with
   | none=>exact ⟨h,h0,N⟩
   | some o =>
    simp only
    by_cases hm:bp c o = true
    ·rw [if_pos hm]
     obtain ⟨vS,_⟩:=dj hf
     obtain ⟨k,hk⟩:=List.getElem?_of_mem vS
     have Z:=h.left o vS
     rw [co h.rise hk,Int.toNat_natCast]
     exact matL_good n _ _ _ (dw h hk (by omega) (by omega)).1 (by omega) (by omega)
    ·rw [if_neg hm]; exact ⟨h,h0,N⟩
  ·rw [if_neg hl]; exact ⟨h,h0,N⟩
def matR (next:Int) (c:Cm) (cl:List Od × Int × List Ev):Int :=
 if c.t = 5∧0 < cl.2.2.length then 11 else if c.t = 4∧0 < cl.2.1 then 12 else if next = 1000000 then 13
 else if aW c.t = true∧0 < cl.2.1 then (if fullB (cl.1 ++ [{ ordO c next with left:=cl.2.1 }]) = true then 13 else 0) else 0
end Go.Proofs.YtnphbkgfjanmgaaGreatDoor
