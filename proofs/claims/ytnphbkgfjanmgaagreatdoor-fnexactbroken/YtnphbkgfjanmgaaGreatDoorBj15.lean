/-
  What comes of a new order, by the program: proved by walking the function.
-/
import Derived.Test.YtnphbkgfjanmgaaGreatDoorBj14
import Derived.WalkMore
set_option linter.unusedVariables false
set_option maxHeartbeats 6400000
set_option maxRecDepth 100000
namespace Go.Proofs.YtnphbkgfjanmgaaGreatDoor
open Go.RowKit
theorem match_any (next:Int) (vb:Value) (l:List Od) (c:Cm) (w:World) (hr:RdR Od.vs 6 w vb l) (hs:SlOk vb) (hg:GoodL l) (h0:0 ≤ next) (Q:next ≤ 1000000) (ah:0 ≤ c.q) (oO:c.q ≤ 1000000) :
  Calls Tryz.prog 211 #[.agg #[I next,vb],noV c] w fun e w'=>∃ vq vt,e = ym (.agg #[I (next + 1),vq,I next,I c.s,I (tk c.p),I (matL c next 21 l c.q []).2.1,I c.l,yk c.g,vt])∧ORow w' w.heap.size vq (matL c next 21 l c.q []).1∧ERow w' w.heap.size vt (matL c next 21 l c.q []).2.2∧yn w w':=by
 have HR:=M hr
 have HG:=M hg
 have hsl:=hs
 have HMI:=M (mi_start (c:=c) (id:=next) hg ah oO)
 have hn:=hg.len
 obtain ⟨a,cap,rfl,xA,hc⟩:=hr
 generalize hF:matL c next 21 l c.q [] = cl at HMI ⊢
 clear hF hc hg hs
 obtain ⟨kk,s,ty,li,qt,ii,pr,tg⟩:=c
 unfold noV
 simp only at *
 have xK:=zi w (A #[I next,.slice a l.length cap] 34)
 have ue:((w.alloc (A #[I next,.slice a l.length cap] 34)).alloc (A #[I s,I ty,I li,I qt,yj pr,yk tg] 85)).heap.size = w.heap.size + 1 + 1:=by rw [zi,xK]
 have jJ:(((w.alloc (A #[I next,.slice a l.length cap] 34)).alloc (A #[I s,I ty,I li,I qt,yj pr,yk tg] 85)).alloc (A #[I 0,.slice none 0 0,I 0,I 0,I 0,I 0,I 0,yk ⟨#[]⟩,.slice none 0 0] 254)).heap.size = w.heap.size + 1 + 1 + 1:=by rw [zi,ue]
 have r1:=zn w [I next,.slice a l.length cap] 34
 have r2:=zn (w.alloc (A #[I next,.slice a l.length cap] 34)) [I s,I ty,I li,I qt,yj pr,yk tg] 85
 rw [xK] at r2
 have t3:=zY ((w.alloc (A #[I next,.slice a l.length cap] 34)).alloc (A #[I s,I ty,I li,I qt,yj pr,yk tg] 85)) [I 0,.slice none 0 0,I 0,I 0,I 0,I 0,I 0,yk ⟨#[]⟩,.slice none 0 0] 254
 rw [ue] at t3
 have xL:Hid (yn w (((w.alloc (A #[I next,.slice a l.length cap] 34)).alloc (A #[I s,I ty,I li,I qt,yj pr,yk tg] 85)).alloc (A #[I 0,.slice none 0 0,I 0,I 0,I 0,I 0,I 0,yk ⟨#[]⟩,.slice none 0 0] 254))):=((fE _ _).alloc (by rw [xK]; omega) _).alloc (by rw [ue]; omega) _
 have b23:Below (w.heap.size + 1 + 1) ((w.alloc (A #[I next,.slice a l.length cap] 34)).alloc (A #[I s,I ty,I li,I qt,yj pr,yk tg] 85)) (((w.alloc (A #[I next,.slice a l.length cap] 34)).alloc (A #[I s,I ty,I li,I qt,yj pr,yk tg] 85)).alloc (A #[I 0,.slice none 0 0,I 0,I 0,I 0,I 0,I 0,yk ⟨#[]⟩,.slice none 0 0] 254)):=(Below.refl _ _).alloc (by rw [ue]; omega) _
 have qz:Below (w.heap.size + 1) (w.alloc (A #[I next,.slice a l.length cap] 34)) ((w.alloc (A #[I next,.slice a l.length cap] 34)).alloc (A #[I s,I ty,I li,I qt,yj pr,yk tg] 85)):=(Below.refl _ _).alloc (by rw [xK]; omega) _
 have HX:Hid (_∧_∧_):=⟨zc (zc r1 qz (by omega)) b23 (by omega),zc r2 b23 (by omega),t3⟩
 have vT:=M jJ
 clear xK ue jJ r1 r2 t3 b23 qz
 go_enter Tryz.func211,Tryz.ntmps211
 go_wp2_with fail
 go_step3
 go_wp2_with fail
 generalize (((w.alloc (A #[I next,.slice a l.length cap] 34)).alloc (A #[I s,I ty,I li,I qt,yj pr,yk tg] 85)).alloc (A #[I 0,.slice none 0 0,I 0,I 0,I 0,I 0,I 0,yk ⟨#[]⟩,.slice none 0 0] 254)) = W3 at xL HX vT ⊢
 have HX:Hid (W3.rangeAt w.heap.size 0 [I next,.slice a l.length cap]∧W3.rangeAt (w.heap.size + 1) 0 [I s,I ty,I li,I qt,yj pr,yk tg]∧W3.there (w.heap.size + 1 + 1) 0 9):=H HX
 have oR:W3.heap.size = w.heap.size + 1 + 1 + 1:=H vT
 have aB:=M (zh (H HR) (H xL) ya)
 refine zk (RG W3 (fun f=>{ tmps:=#[.agg #[I next,.slice a l.length cap],.agg #[I s,I ty,I li,I qt,yj pr,yk tg],yp w 0,J (w.heap.size + 1) 0,J (w.heap.size + 1 + 1) 0,f 7,Z,Z,f 0,f 1,f 2,f 3,f 4,f 5,f 6,Z,Z,Z,Z,Z,Z,Z,Z,Z,Z,Z,Z,Z,Z,Z,Z,Z,Z,Z,Z,Z,Z,Z,Z,Z,Z,Z,Z,Z,Z,Z],defers:=[] }) 8 (DM w.heap.size W3.heap.size W3 next a cap l ⟨kk,s,ty,li,qt,ii,pr,tg⟩)) (by kernel_rfl) ?_ ?_ ?_
 ·exact ⟨fun _=>Z,rfl,⟨rfl,rfl,rfl,Nat.le_refl _,fun _ _=>rfl⟩,fun j O=>by rw [yI] at O; split at O <;> simp at O⟩
 ·rintro x fG xn ⟨f,rfl,xk,hD⟩ hx xN
  have xo:=zN xN hx (acyc _ (by kernel_rfl))
  have k8:x[8]? = some true:=xo 8 (by simp)
  obtain ⟨mb,g7,hmb,-,qC⟩:=hD 7 (xo 7 (by simp))
  obtain ⟨a4,c4,hM⟩:=qC k8
  have HM:=M hM
  have xy:=M xk
  have y0:xn.cell? (U mb 0) = some (I next):=hM.cells 0 _ rfl
  have f0:xn.frozen? (U mb 0) = false:=by have:=(hM.there 0 (by omega)).2; rwa [Nat.zero_add] at this
  have hwr:IntKind.i64.wrap (next + 1) = next + 1:=by rw [IntKind.wrap_i64]; omega
  dsimp only
  simp only [g7]
  generalize f 0 = e0,f 1 = e1,f 2 = e2,f 3 = e3,f 4 = e4,f 5 = e5,f 6 = e6
  clear hD xo xN hx k8 qC hM xk g7 x f
  go_wp2_with fail
  go_step3
  go_wp2_with fail
  have HMB:=M hmb
  clear oR hmb y0 f0
  go_loopw [] (fun wr=>∃ vq ll lf vt ts,Hid (MatS mb W3.heap.size wr (next + 1) vq ll ⟨next,s,tk pr,lf,li,tg⟩ vt ts)∧Hid (MI ⟨kk,s,ty,li,qt,ii,pr,tg⟩ next cl ll lf ts)∧Hid (KeptBut mb W3.heap.size W3 wr)) (fun wr=>meas mb wr)
  case atStart=>exact ⟨_,l,qt,_,[],matS_next (H HM) (next + 1),H HMI,dx (eM (H xy) ya) (kept_set xn 0 _)⟩
  case round =>
   obtain ⟨vq,ll,lf,vt,ts,hM,hI,hK⟩:=hrel
   have y5:wr.cell? (U mb 5) = some (I lf):=(H hM).cells 5 _ rfl
   obtain ⟨av,cv,rfl⟩:∃ a c,vt = .slice a ts.length c:=by
    rcases (H hM).erow.2 with ⟨e,e2⟩ | ⟨g,cap,xF,e,_⟩
    ·exact ⟨none,0,by rw [e,e2]⟩
    ·exact ⟨_,_,e⟩
   obtain ⟨aq,cq,rfl⟩:∃ a c,vq = .slice a ll.length c:=by
    rcases (H hM).orow.2 with ⟨e,e2⟩ | ⟨g,cap,xF,e,_⟩
    ·exact ⟨none,0,by rw [e,e2]⟩
    ·exact ⟨_,_,e⟩
   by_cases pC:0 < lf
   ·have qL:=M (H hI).good
    have HLB:Hid (∀ o' ∈ ll,0 ≤ o'.left∧o'.left ≤ 1000000):=fun o' vM=>by have:=(H qL).left o' vM; omega
    have HRW:=M (zK (H hM).orow (by have:=(H qL).len; omega))
    generalize uT:othS s = sd
    have HSD:=M uT
    generalize hq:quOf (decide (sd = 1)) (zt ll sd) = q
    have kf:=frOf_eq q
    generalize hx:hdO q = x at kf
    generalize oM:hdF q = fb at kf
    have HFR:Hid (frOf (quOf (decide (sd = 1)) (zt ll sd)) = .tuple #[.agg (yw x.id x.side x.ticks x.left x.life x.tag).toArray,.bool fb]):=by show _ = _; rw [hq]; exact kf
    have HFO:Hid (aV ll (othS s) = if fb = true then some x else none):=by
     show _ = _
     rw [aV,uT,hq,← hx,← oM,hdO,hdF]
     cases q.head? <;> rfl
    clear uT hq kf hx oM q
    have jJ:=H vT
    have hc3:∀ j,wr.cell? (U (w.heap.size + 1) j) = W3.cell? (U (w.heap.size + 1) j):=fun j=>yQ (a:=(U (w.heap.size + 1) j)) ((H hK).block (w.heap.size + 1) (by omega) (by have:=H HMB; omega))
    have oF:Hid (wr.rangeAt (w.heap.size + 1) 0 [I s,I ty,I li,I qt,yj pr,yk tg]):=fun j u O=>(hc3 _).trans ((H HX).2.1 j u O)
    have hl3:w.heap.size + 1 < wr.heap.size:=by have:=(H hK).size; omega
    clear hc3 jJ
    go_wp2_with fail
    refine zk (RG wr (fun f=>{ tmps:=#[.agg #[I next,.slice a l.length cap],.agg #[I s,I ty,I li,I qt,yj pr,yk tg],yp w 0,J (w.heap.size + 1) 0,J (w.heap.size + 1 + 1) 0,J mb 0,f 11,f 13,e0,e1,e2,e3,e4,e5,e6,J mb 0,J mb 0,I next,I (next + 1),J mb 0,J mb 0,J mb 2,J mb 5,I lf,.bool true,f 8,f 0,f 1,f 2,f 3,f 4,f 5,f 6,f 7,f 9,f 10,u36,u37,u38,u39,u40,u41,u42,u43,u44,Z],defers:=[] }) 12 (DQ mb (w.heap.size + 1) wr (.agg #[I (next + 1),.slice aq ll.length cq]) s sd ll x fb)) (by kernel_rfl) ?_ ?_ ?_
    ·exact ⟨fun j=>if j = 0 then u26 else if j = 1 then u27 else if j = 2 then u28 else if j = 3 then u29 else if j = 4 then u30 else if j = 5 then u31 else if j = 6 then u32 else if j = 7 then u33 else if j = 8 then u25 else if j = 9 then u34 else if j = 10 then u35 else if j = 11 then u6 else if j = 13 then u7 else Z,rfl,⟨rfl,rfl,rfl,Nat.le_refl _,fun _ _=>rfl⟩,fun j O=>by rw [yI] at O; split at O <;> simp at O⟩
    ·rintro xx fG cp ⟨f,rfl,xk,hD⟩ hx xN
     have xo:=bT xN hx (by kernel_rfl)
     have kj:xx[12]? = some true:=xo 12 (by simp)
     have qJ:f 13 = .bool fb:=hD 13 (xo 13 (by simp))
     obtain ⟨pb,vE,hpb,-,qC⟩:=hD 11 (xo 11 (by simp))
     obtain ⟨hrg,ag⟩:=qC kj
     have xQ:=M (ei (H hM) xk)
     have oU:=M (dx (H hK) (eM xk (H hM).le))
     have o0:=zc (H oF) xk hl3 0 _ rfl
     have o1:=zc (H oF) xk hl3 1 _ rfl
     have o2:=zc (H oF) xk hl3 2 _ rfl
     have o3:=zc (H oF) xk hl3 3 _ rfl
     have o4:=zc (H oF) xk hl3 4 _ rfl
     have o5:=zc (H oF) xk hl3 5 _ rfl
     have HRG:=M hrg
     obtain ⟨p0,p1,p2,p3,p4,p5⟩:=zA hrg
     simp only [Nat.zero_add] at o0 o1 o2 o3 o4 o5 p0 p1 p2 p3 p4 p5
     dsimp only
     simp only [qJ,vE]
     generalize f 0 = b0,f 1 = b1,f 2 = b2,f 3 = b3,f 4 = b4,f 5 = b5,f 6 = b6,f 7 = b7,f 8 = b8,f 9 = b9,f 10 = b10
     clear hD xo xN hx kj qC xk vE qJ hrg hpb f xx y5
     cases fb
     ·have HFE:Hid (cl = (ll,lf,ts)):=mi_none (H hI) (by have:=H HFO; simpa using this)
      clear o0 o1 o2 o3 o4 o5 p0 p1 p2 p3 p4 p5
      have xY:cp.there (w.heap.size + 1 + 1) 0 9:=fun j O=>by
       have Y:=(H oU).block (w.heap.size + 1 + 1) (by have:=H vT; omega) (by have:=H vT; have:=H HMB; omega)
       have:=(H HX).2.2 j O
       rw [yQ (a:=(U (w.heap.size + 1 + 1) (0 + j))) Y,World.frozen?_of_block (a:=(U (w.heap.size + 1 + 1) (0 + j))) Y]
       exact this
      have xp:=M (match_end (H xQ) (H oU) (H xL) (H vT) (H HMB) [I (next + 1),.slice aq ll.length cq,I next,I s,I (tk pr),I lf,I li,yk tg,.slice av ts.length cv] rfl xY)
      have c0:=(H xQ).cells 0 _ rfl
      have c1:=(H xQ).cells 1 _ rfl
      have c2:=(H xQ).cells 2 _ rfl
      have c3:=(H xQ).cells 3 _ rfl
      have c4:=(H xQ).cells 4 _ rfl
      have c5:=(H xQ).cells 5 _ rfl
      have c6:=(H xQ).cells 6 _ rfl
      have c7:=(H xQ).cells 7 _ rfl
      have c8:=(H xQ).cells 8 _ rfl
      simp only [Nat.zero_add] at c0 c1 c2 c3 c4 c5 c6 c7 c8
      obtain ⟨v0,z0,q0⟩:=zG xY 0 (by omega)
      obtain ⟨v1,z1,q1⟩:=zG xY 1 (by omega)
      obtain ⟨v2,z2,q2⟩:=zG xY 2 (by omega)
      obtain ⟨v3,z3,q3⟩:=zG xY 3 (by omega)
      obtain ⟨v4,z4,q4⟩:=zG xY 4 (by omega)
      obtain ⟨v5,z5,q5⟩:=zG xY 5 (by omega)
      obtain ⟨v6,z6,q6⟩:=zG xY 6 (by omega)
      obtain ⟨v7,z7,q7⟩:=zG xY 7 (by omega)
      obtain ⟨v8,z8,q8⟩:=zG xY 8 (by omega)
      simp only [Nat.zero_add] at z0 q0 z1 q1 z2 q2 z3 q3 z4 q4 z5 q5 z6 q6 z7 q7 z8 q8
      clear xY
      go_wp2_with fail
      try simp (config:={ zetaDelta:=true }) only [Exit.noGoto_ret]
      change bodyPost _ _ _ _ _ (cp.setCells (w.heap.size + 1 + 1) 0 [I (next + 1),.slice aq ll.length cq,I next,I s,I (tk pr),I lf,I li,yk tg,.slice av ts.length cv])
      generalize cp.setCells (w.heap.size + 1 + 1) 0 [I (next + 1),.slice aq ll.length cq,I next,I s,I (tk pr),I lf,I li,yk tg,.slice av ts.length cv] = WE at xp ⊢
      obtain ⟨d0,d1,d2,d3,d4,d5,d6,d7,d8⟩:=yE (H xp).1
      try simp only [Exit.inBlock,Exit.then]
      refine bodyPost_ret (by simp [results,Tryz.results211,go_sem,d0,d1,d2,d3,d4,d5,d6,d7,d8]; try rfl) rfl ?_
      rw [H HFE]
      exact ⟨_,_,rfl,(H xp).2.1,(H xp).2.2.1,(H xp).2.2.2⟩
     ·have HFO:Hid (aV ll (othS s) = some x):=by show _ = _; have:=H HFO; simpa using this
      go_wp2_with fail
      refine (meets_any ⟨kk,s,ty,li,qt,ii,pr,tg⟩ x cp).mono ?_
      rintro e w5 ⟨rfl,uf⟩
      have vz:=M (ei (H xQ) uf)
      have HK5:=M (dx (H oU) (eM uf (H xQ).le))
      obtain ⟨s0,s1,s2,s3,s4,s5⟩:=zA (zc (H HRG) uf ag)
      simp only [Nat.zero_add] at s0 s1 s2 s3 s4 s5
      clear o0 o1 o2 o3 o4 o5 p0 p1 p2 p3 p4 p5 uf
      cases hme:bA ⟨kk,s,ty,li,qt,ii,pr,tg⟩ x
      ·have HFE:Hid (cl = (ll,lf,ts)):=mi_stop (H hI) (H HFO) hme
       clear s0 s1 s2 s3 s4 s5 hme
       have xY:w5.there (w.heap.size + 1 + 1) 0 9:=fun j O=>by
        have Y:=(H HK5).block (w.heap.size + 1 + 1) (by have:=H vT; omega) (by have:=H vT; have:=H HMB; omega)
        have:=(H HX).2.2 j O
        rw [yQ (a:=(U (w.heap.size + 1 + 1) (0 + j))) Y,World.frozen?_of_block (a:=(U (w.heap.size + 1 + 1) (0 + j))) Y]
        exact this
       have xp:=M (match_end (H vz) (H HK5) (H xL) (H vT) (H HMB) [I (next + 1),.slice aq ll.length cq,I next,I s,I (tk pr),I lf,I li,yk tg,.slice av ts.length cv] rfl xY)
       have c0:=(H vz).cells 0 _ rfl
       have c1:=(H vz).cells 1 _ rfl
       have c2:=(H vz).cells 2 _ rfl
       have c3:=(H vz).cells 3 _ rfl
       have c4:=(H vz).cells 4 _ rfl
       have c5:=(H vz).cells 5 _ rfl
       have c6:=(H vz).cells 6 _ rfl
       have c7:=(H vz).cells 7 _ rfl
       have c8:=(H vz).cells 8 _ rfl
       simp only [Nat.zero_add] at c0 c1 c2 c3 c4 c5 c6 c7 c8
       obtain ⟨v0,z0,q0⟩:=zG xY 0 (by omega)
       obtain ⟨v1,z1,q1⟩:=zG xY 1 (by omega)
       obtain ⟨v2,z2,q2⟩:=zG xY 2 (by omega)
       obtain ⟨v3,z3,q3⟩:=zG xY 3 (by omega)
       obtain ⟨v4,z4,q4⟩:=zG xY 4 (by omega)
       obtain ⟨v5,z5,q5⟩:=zG xY 5 (by omega)
       obtain ⟨v6,z6,q6⟩:=zG xY 6 (by omega)
       obtain ⟨v7,z7,q7⟩:=zG xY 7 (by omega)
       obtain ⟨v8,z8,q8⟩:=zG xY 8 (by omega)
       simp only [Nat.zero_add] at z0 q0 z1 q1 z2 q2 z3 q3 z4 q4 z5 q5 z6 q6 z7 q7 z8 q8
       clear xY
       go_wp2_with fail
       try simp (config:={ zetaDelta:=true }) only [Exit.noGoto_ret]
       change bodyPost _ _ _ _ _ (w5.setCells (w.heap.size + 1 + 1) 0 [I (next + 1),.slice aq ll.length cq,I next,I s,I (tk pr),I lf,I li,yk tg,.slice av ts.length cv])
       generalize w5.setCells (w.heap.size + 1 + 1) 0 [I (next + 1),.slice aq ll.length cq,I next,I s,I (tk pr),I lf,I li,yk tg,.slice av ts.length cv] = WE at xp ⊢
       obtain ⟨d0,d1,d2,d3,d4,d5,d6,d7,d8⟩:=yE (H xp).1
       try simp only [Exit.inBlock,Exit.then]
       refine bodyPost_ret (by simp [results,Tryz.results211,go_sem,d0,d1,d2,d3,d4,d5,d6,d7,d8]; try rfl) rfl ?_
       rw [H HFE]
       exact ⟨_,_,rfl,(H xp).2.1,(H xp).2.2.1,(H xp).2.2.2⟩
      ·obtain ⟨k,uQ,hkk,hI6,hms⟩:=mi_step (H hI) pC (H HFO) hme
       have hxm:=(H qL).left x (yO hkk)
       have vZ:Hid (_∧_∧_∧_):=⟨uQ,hkk,hI6,hms⟩
       have hl1:=(H hI).l1
       have hl20:=(H qL).len
       have hfew:=(H hI).few
       have vO:Hid (0 ≤ lf∧lf ≤ 1000000∧0 ≤ x.left∧x.left ≤ 1000000∧ll.length ≤ 1000∧ts.length ≤ 1000):=⟨by omega,by omega,by omega,by omega,by omega,by omega⟩
       clear uQ hkk hI6 hms hme hxm hl1 hl20 hfew
       go_wp2_with fail
       refine (trade_any mb W3.heap.size (next + 1) _ ll ⟨next,s,tk pr,lf,li,tg⟩ _ ts x k w5 (H vz) (H vZ).1 (H vZ).2.1 (H vO).2.2.2.2.1 (H vO).2.2.2.2.2 (H vO).1 (H vO).2.1 (H vO).2.2.1 (H vO).2.2.2.1 _ rfl).mono ?_
       rintro e w6 ⟨uH,vt',rfl,hM6,hK6⟩
       have HM6:=M hM6
       have HK6:=M hK6
       clear hM6 hK6 s0 s1 s2 s3 s4 s5
       go_wp2_with fail
       dsimp only [I,J,U]
       go_roundw
       case rel=>exact ⟨uH,_,_,vt',_,H HM6,(H vZ).2.2.1,dx (H HK5) (H HK6)⟩
       case measure =>
        rw [meas_eq (H HM6),meas_eq (H hM)]
        have:=(H vZ).2.2.2
        simp only [if_pos pC]
        exact this
    ·rintro xx fG cp i op ⟨f,rfl,xk,hD⟩ V hx N xq D
     have n12':i ≠ 10→i < 12→¬ xx[12]? = some true:=fun xD xI uO=>by
      have uS:=yf V 12 rfl uO 11 rfl
      have h9:=yf V 12 rfl uO 9 rfl
      have h8:=yf V 9 rfl h9 8 rfl
      have h7:=yf V 8 rfl h8 7 rfl
      have h6:=yf V 7 rfl h7 6 rfl
      have h5:=yf V 6 rfl h6 5 rfl
      have Q:=yf V 5 rfl h5 1 rfl
      have h4:=yf V 5 rfl h5 4 rfl
      have h0:=yf V 1 rfl Q 0 rfl
      have h3:=yf V 4 rfl h4 3 rfl
      have E:=yf V 3 rfl h3 2 rfl
      have vK:∀ j,j ≠ 10→j < 12→xx[j]? = some true:=fun j hj0 O=>by
       rcases (by omega:j = 0 ∨ j = 1 ∨ j = 2 ∨ j = 3 ∨ j = 4 ∨ j = 5 ∨ j = 6 ∨ j = 7 ∨ j = 8 ∨ j = 9 ∨ j = 11) with rfl | rfl | rfl | rfl | rfl | rfl | rfl | rfl | rfl | rfl | rfl <;> assumption
      rw [vK i xD xI] at xq; cases xq
     clear V y5
     have qE:=M xk
     have HD:=M hD
     have jM:=M (zh (H HRW) xk ya)
     have z0:=zc (H hM).cells xk (H hM).lt 0 _ rfl
     have z1:=zc (H hM).cells xk (H hM).lt 1 _ rfl
     have o0:=zc (H oF) xk hl3 0 _ rfl
     rw [Nat.zero_add] at z0 z1 o0
     match i,N with
    | 0,N =>
     obtain rfl:=yb N
     clear D hD xk
     rw [if_pos (by rfl)];unfold Oper.wp;go_simp
     exact ⟨upd f 0 (J mb 0),by simp [upd],zf (H qE) (H HD) (by decide) rfl⟩
    | 1,N =>
     obtain rfl:=yb N
     have g:f 0 = J mb 0:=hD 0 (ye D 0 rfl)
     clear D hD xk
     rw [if_pos (by rfl)];unfold Oper.wp;go_simp
     exact ⟨upd f 1 (.agg #[I (next + 1),.slice aq ll.length cq]),by simp [upd,g],zf (H qE) (H HD) (by decide) rfl⟩
    | 2,N =>
     obtain rfl:=yb N
     clear D hD xk
     rw [if_pos (by rfl)];unfold Oper.wp;go_simp
     exact ⟨upd f 2 (J (w.heap.size + 1) 0),by simp [upd],zf (H qE) (H HD) (by decide) rfl⟩
    | 3,N =>
     obtain rfl:=yb N
     have g:f 2 = J (w.heap.size + 1) 0:=hD 2 (ye D 2 rfl)
     clear D hD xk
     rw [if_pos (by rfl)];unfold Oper.wp;go_simp
     exact ⟨upd f 3 (I s),by simp [upd,g],zf (H qE) (H HD) (by decide) rfl⟩
    | 4,N =>
     obtain rfl:=yb N
     have g:f 3 = I s:=hD 3 (ye D 3 rfl)
     clear D hD xk
     rw [if_pos (by rfl)];unfold Oper.wp;go_simp
     refine (otherSide_any s cp).mono ?_
     rw [H HSD]
     rintro e w4 ⟨rfl,rfl⟩
     exact ⟨upd f 4 (I sd),by simp [upd,g],zf (H qE) (H HD) (by decide) rfl⟩
    | 5,N =>
     obtain rfl:=yb N
     have g1:f 1 = .agg #[I (next + 1),.slice aq ll.length cq]:=hD 1 (ye D 1 rfl)
     have g4:f 4 = I sd:=hD 4 (ye D 4 rfl)
     have vr:=n12' (by omega) (by omega)
     clear D hD xk
     rw [if_pos (by rfl)];unfold Oper.wp;go_simp
     by_cases uT:sd = 1
     ·subst uT
      refine (eX (next + 1) _ ll cp (H jM) (H qL).len (H HLB)).mono ?_
      rintro e w4 ⟨b,rfl,ht,qi,xw⟩
      exact ⟨upd f 5 (bK b),by simp [upd,g1,g4],bm (H qE) (H HD) xw (by decide) (dq_grow vr xw) (fun _=>.inl ⟨rfl,b,rfl,ht⟩)⟩
     ·refine (eE (next + 1) sd uT _ ll cp (H jM) (H qL).len (H HLB)).mono ?_
      rintro e w4 ⟨b,rfl,ht,qi,xw⟩
      exact ⟨upd f 5 (bL b),by simp [upd,g1,g4],bm (H qE) (H HD) xw (by decide) (dq_grow vr xw) (fun _=>.inr ⟨uT,b,rfl,ht⟩)⟩
    | 6,N =>
     obtain rfl:=yb N
     have vr:=n12' (by omega) (by omega)
     rcases hD 5 (ye D 5 rfl) vr with ⟨uT,b,g5,ht⟩ | ⟨uT,b,g5,ht⟩
     ·subst uT
      have HT:=M ht
      have hfl:=field0_bm b cp
      clear D hD xk ht
      rw [if_pos (by rfl)];unfold Oper.wp;go_simp
      exact ⟨upd f 6 (.func (.func 166) #[J b 0] #[]),by simp [upd,g5],zf (H qE) (H HD) (by decide) (fun _=>.inl ⟨rfl,b,rfl,H HT⟩)⟩
     ·have HT:=M ht
      have hfl:=field0_sm b cp
      clear D hD xk ht
      rw [if_pos (by rfl)];unfold Oper.wp;go_simp
      exact ⟨upd f 6 (.func (.func 170) #[J b 0] #[]),by simp [upd,g5],zf (H qE) (H HD) (by decide) (fun _=>.inr ⟨uT,b,rfl,H HT⟩)⟩
    | 7,N =>
     obtain rfl:=yb N
     have vr:=n12' (by omega) (by omega)
     rcases hD 6 (ye D 6 rfl) vr with ⟨uT,b,g6,ht⟩ | ⟨uT,b,g6,ht⟩
     ·subst uT
      have HT:=M ht
      have HE:Hid (frOf (quOf true (zt ll 1)) = .tuple #[.agg (yw x.id x.side x.ticks x.left x.life x.tag).toArray,.bool fb]):=by
       show _ = _
       have:=H HFR
       simpa using this
      clear D hD xk ht
      rw [if_pos (by rfl)];unfold Oper.wp;go_simp
      refine (front_b b 1 (zt ll 1) cp (H HT) (yN (List.length_filter_le _ _) (H qL).len)).mono ?_
      rw [H HE]
      rintro e w4 ⟨rfl,xw⟩
      exact ⟨upd f 7 (.tuple #[.agg (yw x.id x.side x.ticks x.left x.life x.tag).toArray,.bool fb]),by simp [upd,g6],bm (H qE) (H HD) xw (by decide) (dq_grow vr xw) rfl⟩
     ·have HT:=M ht
      have HE:Hid (frOf (quOf false (zt ll sd)) = .tuple #[.agg (yw x.id x.side x.ticks x.left x.life x.tag).toArray,.bool fb]):=by
       have:=H HFR
       rw [decide_eq_false uT] at this
       exact this
      clear D hD xk ht
      rw [if_pos (by rfl)];unfold Oper.wp;go_simp
      refine (front_s b sd (zt ll sd) cp (H HT) (yN (List.length_filter_le _ _) (H qL).len)).mono ?_
      rw [H HE]
      rintro e w4 ⟨rfl,xw⟩
      exact ⟨upd f 7 (.tuple #[.agg (yw x.id x.side x.ticks x.left x.life x.tag).toArray,.bool fb]),by simp [upd,g6],bm (H qE) (H HD) xw (by decide) (dq_grow vr xw) rfl⟩
    | 8,N =>
     obtain rfl:=yb N
     have g:f 7 = .tuple #[.agg (yw x.id x.side x.ticks x.left x.life x.tag).toArray,.bool fb]:=hD 7 (ye D 7 rfl)
     clear D hD xk
     rw [if_pos (by rfl)];unfold Oper.wp;go_simp
     exact ⟨upd f 8 (.tuple #[.agg (yw x.id x.side x.ticks x.left x.life x.tag).toArray,.bool fb]),by simp [upd,g],zf (H qE) (H HD) (by decide) rfl⟩
    | 9,N =>
     obtain rfl:=yb N
     have g:f 8 = .tuple #[.agg (yw x.id x.side x.ticks x.left x.life x.tag).toArray,.bool fb]:=hD 8 (ye D 8 rfl)
     clear D hD xk
     rw [if_pos (by rfl)];unfold Oper.wp;go_simp
     exact ⟨upd f 9 (.agg (yw x.id x.side x.ticks x.left x.life x.tag).toArray),by simp [upd,g],zf (H qE) (H HD) (by decide) rfl⟩
    | 10,N =>
     obtain rfl:=yb N
     have g:f 8 = .tuple #[.agg (yw x.id x.side x.ticks x.left x.life x.tag).toArray,.bool fb]:=hD 8 (ye D 8 rfl)
     clear D hD xk
     rw [if_pos (by rfl)];unfold Oper.wp;go_simp
     exact ⟨upd f 10 (.bool fb),by simp [upd,g],zf (H qE) (H HD) (by decide) rfl⟩
    | 11,N =>
     obtain rfl:=yb N
     have vr:=n12' (by omega) (by omega)
     clear D hD xk
     rw [if_pos (by rfl)];unfold Oper.wp;go_simp
     have xw:=fE cp (A (yw 0 0 0 0 0 ⟨#[]⟩).toArray 78)
     exact ⟨upd f 11 (yp cp 0),by simp [upd],bm (H qE) (H HD) xw (by decide) (dq_grow vr xw) ⟨cp.heap.size,rfl,(H qE).size,fun _=>⟨zY cp (yw 0 0 0 0 0 ⟨#[]⟩) _,by rw [zi]; omega⟩,fun h=>absurd h vr⟩⟩
    | 12,N =>
     obtain rfl:=yb N
     have vr:¬ xx[12]? = some true:=by rw [xq]; simp
     have g9:f 9 = .agg (yw x.id x.side x.ticks x.left x.life x.tag).toArray:=hD 9 (ye D 9 rfl)
     obtain ⟨pb,vE,hpb,xY,-⟩:=hD 11 (ye D 11 rfl)
     obtain ⟨xY,ag⟩:=xY vr
     have HTH:=M xY
     obtain ⟨u0,y0,q0⟩:=zG xY 0 (by omega)
     obtain ⟨u1,y1,q1⟩:=zG xY 1 (by omega)
     obtain ⟨u2,y2,q2⟩:=zG xY 2 (by omega)
     obtain ⟨u3,y3,q3⟩:=zG xY 3 (by omega)
     obtain ⟨u4,y4,q4⟩:=zG xY 4 (by omega)
     obtain ⟨u5,y5,q5⟩:=zG xY 5 (by omega)
     simp only [Nat.zero_add] at y0 q0 y1 q1 y2 q2 y3 q3 y4 q4 y5 q5
     clear D hD xk xY
     rw [if_pos (by rfl)];unfold Oper.wp;go_simp
     refine ⟨upd f 12 Z,by simp [upd,g9,vE],rgx_last (zj pb hpb (yw x.id x.side x.ticks x.left x.life x.tag) 0 cp (H qE)) (H HD) xq (fun j O hxj h=>dq_last j O h (fun hj11=>?_)) trivial⟩
     subst hj11
     refine ⟨pb,vE,hpb,fun h=>absurd trivial h,fun _=>⟨?_,?_⟩⟩
     ·exact yX cp pb 0 (yw x.id x.side x.ticks x.left x.life x.tag) (fun j O=>H HTH j O)
     ·show pb < (cp.setCells pb 0 (yw x.id x.side x.ticks x.left x.life x.tag)).heap.size
      simp only [World.setCells,World.setCell,Array.size_modify]; exact ag
    | 13,N =>
     obtain rfl:=yb N
     have g:f 10 = .bool fb:=hD 10 (ye D 10 rfl)
     clear D hD xk
     rw [if_pos (by rfl)];unfold Oper.wp;go_simp
     exact ⟨upd f 13 (.bool fb),by simp [upd,g],zf (H qE) (H HD) (by decide) rfl⟩
    | i + 14,N=>simp at N
   ·have HFE:Hid (cl = (ll,lf,ts)):=mi_done (H hI) pC
    have xY:wr.there (w.heap.size + 1 + 1) 0 9:=fun j O=>by
     have Y:=(H hK).block (w.heap.size + 1 + 1) (by have:=H vT; omega) (by have:=H vT; have:=H HMB; omega)
     have:=(H HX).2.2 j O
     rw [yQ (a:=(U (w.heap.size + 1 + 1) (0 + j))) Y,World.frozen?_of_block (a:=(U (w.heap.size + 1 + 1) (0 + j))) Y]
     exact this
    have xp:=M (match_end (H hM) (H hK) (H xL) (H vT) (H HMB) [I (next + 1),.slice aq ll.length cq,I next,I s,I (tk pr),I lf,I li,yk tg,.slice av ts.length cv] rfl xY)
    have c0:=(H hM).cells 0 _ rfl
    have c1:=(H hM).cells 1 _ rfl
    have c2:=(H hM).cells 2 _ rfl
    have c3:=(H hM).cells 3 _ rfl
    have c4:=(H hM).cells 4 _ rfl
    have c5:=(H hM).cells 5 _ rfl
    have c6:=(H hM).cells 6 _ rfl
    have c7:=(H hM).cells 7 _ rfl
    have c8:=(H hM).cells 8 _ rfl
    simp only [Nat.zero_add] at c0 c1 c2 c3 c4 c5 c6 c7 c8
    obtain ⟨v0,z0,q0⟩:=zG xY 0 (by omega)
    obtain ⟨v1,z1,q1⟩:=zG xY 1 (by omega)
    obtain ⟨v2,z2,q2⟩:=zG xY 2 (by omega)
    obtain ⟨v3,z3,q3⟩:=zG xY 3 (by omega)
    obtain ⟨v4,z4,q4⟩:=zG xY 4 (by omega)
    obtain ⟨v5,z5,q5⟩:=zG xY 5 (by omega)
    obtain ⟨v6,z6,q6⟩:=zG xY 6 (by omega)
    obtain ⟨v7,z7,q7⟩:=zG xY 7 (by omega)
    obtain ⟨v8,z8,q8⟩:=zG xY 8 (by omega)
    simp only [Nat.zero_add] at z0 q0 z1 q1 z2 q2 z3 q3 z4 q4 z5 q5 z6 q6 z7 q7 z8 q8
    clear xY
    go_wp2_with fail
    try simp (config:={ zetaDelta:=true }) only [Exit.noGoto_ret]
    change bodyPost _ _ _ _ _ (wr.setCells (w.heap.size + 1 + 1) 0 [I (next + 1),.slice aq ll.length cq,I next,I s,I (tk pr),I lf,I li,yk tg,.slice av ts.length cv])
    generalize wr.setCells (w.heap.size + 1 + 1) 0 [I (next + 1),.slice aq ll.length cq,I next,I s,I (tk pr),I lf,I li,yk tg,.slice av ts.length cv] = WE at xp ⊢
    obtain ⟨d0,d1,d2,d3,d4,d5,d6,d7,d8⟩:=yE (H xp).1
    try simp only [Exit.inBlock,Exit.then]
    refine bodyPost_ret (by simp [results,Tryz.results211,go_sem,d0,d1,d2,d3,d4,d5,d6,d7,d8]; try rfl) rfl ?_
    rw [H HFE]
    exact ⟨_,_,rfl,(H xp).2.1,(H xp).2.2.1,(H xp).2.2.2⟩
 ·rintro x fG xn i op ⟨f,rfl,xk,hD⟩ V hx N xq D
  have n8':i < 8→¬ x[8]? = some true:=fun xI h8=>by
   have h7:=yf V 8 rfl h8 7 rfl
   have h6:=yf V 8 rfl h8 6 rfl
   have h5:=yf V 6 rfl h6 5 rfl
   have Q:=yf V 6 rfl h6 1 rfl
   have h0:=yf V 1 rfl Q 0 rfl
   have E:=yf V 5 rfl h5 2 rfl
   have h4:=yf V 5 rfl h5 4 rfl
   have h3:=yf V 4 rfl h4 3 rfl
   have vK:∀ j,j < 8→x[j]? = some true:=fun j O=>by
    rcases (by omega:j = 0 ∨ j = 1 ∨ j = 2 ∨ j = 3 ∨ j = 4 ∨ j = 5 ∨ j = 6 ∨ j = 7) with rfl | rfl | rfl | rfl | rfl | rfl | rfl | rfl <;> assumption
   rw [vK i xI] at xq; cases xq
  clear V
  have xy:=M xk
  have HD:=M hD
  have uR:=M (zh (H aB) xk ya)
  have z0:=zc (H HX).1 xk (by omega) 0 _ rfl
  have z1:=zc (H HX).1 xk (by omega) 1 _ rfl
  have o0:=zc (H HX).2.1 xk (by omega) 0 _ rfl
  have o1:=zc (H HX).2.1 xk (by omega) 1 _ rfl
  have o2:=zc (H HX).2.1 xk (by omega) 2 _ rfl
  have o3:=zc (H HX).2.1 xk (by omega) 3 _ rfl
  have o4:=zc (H HX).2.1 xk (by omega) 4 _ rfl
  have o5:=zc (H HX).2.1 xk (by omega) 5 _ rfl
  rw [Nat.zero_add] at z0 z1 o0 o1 o2 o3 o4 o5
  clear oR
  match i,N with
  | 0,N =>
   obtain rfl:=yb N
   clear D hD xk
   rw [if_pos (by rfl)];unfold Oper.wp;go_simp
   exact ⟨upd f 0 (.agg #[I next,.slice a l.length cap]),by simp [upd],zf (H xy) (H HD) (by decide) rfl⟩
  | 1,N =>
   obtain rfl:=yb N
   have g:f 0 = .agg #[I next,.slice a l.length cap]:=hD 0 (ye D 0 rfl)
   have n8:=n8' (by omega)
   clear D hD xk
   rw [if_pos (by rfl)];unfold Oper.wp;go_simp
   refine (copyBook_any next _ l xn (H uR) hsl (by omega)).mono ?_
   rintro e w4 ⟨v4,rfl,ho4,xw⟩
   obtain ⟨a4,c4,rfl⟩:=cA (zK ho4 (by omega))
   exact ⟨upd f 1 (.agg #[I next,.slice a4 l.length c4]),by simp [upd,g],bm (H xy) (H HD) xw (by decide) (dm_grow n8 xw) ⟨a4,c4,rfl,fun _=>zS ho4 (H xy).size⟩⟩
  | 2,N =>
   obtain rfl:=yb N
   clear D hD xk
   rw [if_pos (by rfl)];unfold Oper.wp;go_simp
   exact ⟨upd f 2 (.agg #[I s,I ty,I li,I qt,yj pr,yk tg]),by simp [upd],zf (H xy) (H HD) (by decide) rfl⟩
  | 3,N =>
   obtain rfl:=yb N
   clear D hD xk
   rw [if_pos (by rfl)];unfold Oper.wp;go_simp
   exact ⟨upd f 3 (yp w 0),by simp [upd],zf (H xy) (H HD) (by decide) rfl⟩
  | 4,N =>
   obtain rfl:=yb N
   have g:f 3 = yp w 0:=hD 3 (ye D 3 rfl)
   clear D hD xk
   rw [if_pos (by rfl)];unfold Oper.wp;go_simp
   exact ⟨upd f 4 (I next),by simp [upd,g],zf (H xy) (H HD) (by decide) rfl⟩
  | 5,N =>
   obtain rfl:=yb N
   have g2:f 2 = .agg #[I s,I ty,I li,I qt,yj pr,yk tg]:=hD 2 (ye D 2 rfl)
   have g4:f 4 = I next:=hD 4 (ye D 4 rfl)
   have n8:=n8' (by omega)
   clear D hD xk
   rw [if_pos (by rfl)];unfold Oper.wp;go_simp
   refine (order_any ⟨kk,s,ty,li,qt,ii,pr,tg⟩ next xn).mono ?_
   rintro e w4 ⟨rfl,xw⟩
   exact ⟨upd f 5 (.agg (yw next s (tk pr) qt li tg).toArray),by simp [upd,g2,g4],bm (H xy) (H HD) xw (by decide) (dm_grow n8 xw) rfl⟩
  | 6,N =>
   obtain rfl:=yb N
   obtain ⟨a4,c4,g1,kN⟩:=hD 1 (ye D 1 rfl)
   have g5:f 5 = .agg (yw next s (tk pr) qt li tg).toArray:=hD 5 (ye D 5 rfl)
   have jA:=M kN
   clear D hD xk kN
   rw [if_pos (by rfl)];unfold Oper.wp;go_simp
   exact ⟨upd f 6 (.agg #[I next,.slice a4 l.length c4,I next,I s,I (tk pr),I qt,I li,yk tg,.slice none 0 0]),by simp [upd,g1,g5],zf (H xy) (H HD) (by decide) ⟨a4,c4,rfl,H jA⟩⟩
  | 7,N =>
   obtain rfl:=yb N
   have n8:=n8' (by omega)
   clear D hD xk
   rw [if_pos (by rfl)];unfold Oper.wp;go_simp
   have xw:=fE xn (A #[I 0,.slice none 0 0,I 0,I 0,I 0,I 0,I 0,yk ⟨#[]⟩,.slice none 0 0] 254)
   exact ⟨upd f 7 (yp xn 0),by simp [upd],bm (H xy) (H HD) xw (by decide) (dm_grow n8 xw) ⟨xn.heap.size,rfl,(H xy).size,fun _=>⟨zY xn [I 0,.slice none 0 0,I 0,I 0,I 0,I 0,I 0,yk ⟨#[]⟩,.slice none 0 0] _,_,heap_alloc_new xn _⟩,fun h=>absurd h n8⟩⟩
  | 8,N =>
   obtain rfl:=yb N
   have n8:¬ x[8]? = some true:=by rw [xq]; simp
   obtain ⟨a4,c4,g6,ho6⟩:=hD 6 (ye D 6 rfl)
   obtain ⟨mb,g7,hmb,xY,-⟩:=hD 7 (ye D 7 rfl)
   obtain ⟨xY,kD⟩:=xY n8
   have HO6:=M (ho6 n8)
   have HTH:=M xY
   have qE:=M kD
   obtain ⟨u0,y0,q0⟩:=zG xY 0 (by omega)
   obtain ⟨u1,y1,q1⟩:=zG xY 1 (by omega)
   obtain ⟨u2,y2,q2⟩:=zG xY 2 (by omega)
   obtain ⟨u3,y3,q3⟩:=zG xY 3 (by omega)
   obtain ⟨u4,y4,q4⟩:=zG xY 4 (by omega)
   obtain ⟨u5,y5,q5⟩:=zG xY 5 (by omega)
   obtain ⟨u6,y6,q6⟩:=zG xY 6 (by omega)
   obtain ⟨u7,y7,q7⟩:=zG xY 7 (by omega)
   obtain ⟨u8,y8,q8⟩:=zG xY 8 (by omega)
   simp only [Nat.zero_add] at y0 q0 y1 q1 y2 q2 y3 q3 y4 q4 y5 q5 y6 q6 y7 q7 y8 q8
   clear D hD xk ho6 xY kD
   rw [if_pos (by rfl)];unfold Oper.wp;go_simp
   refine ⟨upd f 8 Z,by simp [upd,g6,g7],rgx_last (zj mb hmb [I next,.slice a4 l.length c4,I next,I s,I (tk pr),I qt,I li,yk tg,.slice none 0 0] 0 xn (H xy)) (H HD) xq (fun j O hxj h=>dm_last j O h (fun hj7=>?_)) trivial⟩
   subst hj7
   refine ⟨mb,g7,hmb,fun h=>absurd trivial h,fun _=>⟨a4,c4,?_⟩⟩
   exact matS_made (c:=⟨kk,s,ty,li,qt,ii,pr,tg⟩) (H HTH) (H qE) (H HO6) (by have:=(H xy).size; omega)
  | i + 9,N=>simp at N
theorem matL_good {c:Cm} {id:Int}:∀ (n:Nat) (l:List Od) (left:Int) (ts:List Ev),GoodL l→0 ≤ left→left ≤ 1000000→GoodL (matL c id n l left ts).1∧0 ≤ (matL c id n l left ts).2.1∧(matL c id n l left ts).2.1 ≤ 1000000
 | 0,l,left,ts,h,h0,Q=>⟨h,h0,Q⟩
 | n + 1,l,left,ts,h,h0,Q=>by
  rw [matL]
  by_cases hl:0 < left
  ·rw [if_pos hl]
   cases hf:aV l (othS c.s) with
   | none=>exact ⟨h,h0,Q⟩
   | some o =>
    simp only
    by_cases hm:bA c o = true
    ·rw [if_pos hm]
     obtain ⟨vR,_⟩:=dD hf
     obtain ⟨k,hk⟩:=List.getElem?_of_mem vR
     have N:=h.left o vR
     rw [cD h.rise hk,Int.toNat_natCast]
     exact matL_good n _ _ _ (dG h hk (by omega) (by omega)).1 (by omega) (by omega)
    ·rw [if_neg hm]; exact ⟨h,h0,Q⟩
  ·rw [if_neg hl]; exact ⟨h,h0,Q⟩
def matR (next:Int) (c:Cm) (cl:List Od × Int × List Ev):Int :=
 if c.t = 5∧0 < cl.2.2.length then 11 else if c.t = 4∧0 < cl.2.1 then 12 else if next = 1000000 then 13
 else if ba c.t = true∧0 < cl.2.1 then (if fullB (cl.1 ++ [{ ordO c next with left:=cl.2.1 }]) = true then 13 else 0) else 0
end Go.Proofs.YtnphbkgfjanmgaaGreatDoor
