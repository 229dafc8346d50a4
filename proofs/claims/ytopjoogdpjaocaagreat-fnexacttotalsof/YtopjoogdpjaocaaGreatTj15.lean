/-
  What comes of a new order, by the program: proved by walking the function.
-/
import Derived.Test.YtopjoogdpjaocaaGreatTj14
import Derived.WalkMore
set_option linter.unusedVariables false
set_option maxHeartbeats 6400000
set_option maxRecDepth 100000
namespace Go.Proofs.YtopjoogdpjaocaaGreat
open Go.RowKit
set_option maxRecDepth 100000 in
set_option maxHeartbeats 3200000 in
theorem match_any (next:Int) (vb:Value) (l:List Od) (c:Cm) (w:World) (hr:RdR Od.vs 6 w vb l) (hs:SlOk vb) (hg:GoodL l) (h0:0 ≤ next) (h1:next ≤ 1000000) (hq0:0 ≤ c.q) (hq1:c.q ≤ 1000000) :
  Calls Tryz.prog 70 #[.agg #[.int .i64 next,vb],noV c] w fun e w'=>∃ vq vt,e = .returned (.agg #[.int .i64 (next + 1),vq,.int .i64 next,.int .i64 c.s,.int .i64 (tk c.p),.int .i64 (matL c next 21 l c.q []).2.1,.int .i64 c.l,.string c.g,vt])∧ORow w' w.heap.size vq (matL c next 21 l c.q []).1∧ERow w' w.heap.size vt (matL c next 21 l c.q []).2.2∧Below w.heap.size w w':=by
 have HR:=hide hr
 have HG:=hide hg
 have hsl:=hs
 have HMI:=hide (mi_start (c:=c) (id:=next) hg hq0 hq1)
 have hn:=hg.len
 obtain ⟨a,cap,rfl,hlen,hc⟩:=hr
 generalize hF:matL c next 21 l c.q [] = F at HMI ⊢
 clear hF hc hg hs
 obtain ⟨kk,s,ty,li,qt,ii,pr,tg⟩:=c
 unfold noV
 simp only at *
 have hs1:(w.alloc (Obj.cells #[.int .i64 next,.slice a l.length cap] 46)).heap.size = w.heap.size + 1:=ze _ _
 have hs2:((w.alloc (Obj.cells #[.int .i64 next,.slice a l.length cap] 46)).alloc (Obj.cells #[.int .i64 s,.int .i64 ty,.int .i64 li,.int .i64 qt,.float .f64 pr,.string tg] 99)).heap.size = w.heap.size + 1 + 1:=by rw [ze,hs1]
 have hs3:(((w.alloc (Obj.cells #[.int .i64 next,.slice a l.length cap] 46)).alloc (Obj.cells #[.int .i64 s,.int .i64 ty,.int .i64 li,.int .i64 qt,.float .f64 pr,.string tg] 99)).alloc (Obj.cells #[.int .i64 0,.slice none 0 0,.int .i64 0,.int .i64 0,.int .i64 0,.int .i64 0,.int .i64 0,.string ⟨#[]⟩,.slice none 0 0] 126)).heap.size = w.heap.size + 1 + 1 + 1:=by rw [ze,hs2]
 have r1:=zh w [.int .i64 next,.slice a l.length cap] 46
 have r2:=zh (w.alloc (Obj.cells #[.int .i64 next,.slice a l.length cap] 46)) [.int .i64 s,.int .i64 ty,.int .i64 li,.int .i64 qt,.float .f64 pr,.string tg] 99
 rw [hs1] at r2
 have t3:=zw ((w.alloc (Obj.cells #[.int .i64 next,.slice a l.length cap] 46)).alloc (Obj.cells #[.int .i64 s,.int .i64 ty,.int .i64 li,.int .i64 qt,.float .f64 pr,.string tg] 99)) [.int .i64 0,.slice none 0 0,.int .i64 0,.int .i64 0,.int .i64 0,.int .i64 0,.int .i64 0,.string ⟨#[]⟩,.slice none 0 0] 126
 rw [hs2] at t3
 have HB3:Hid (Below w.heap.size w (((w.alloc (Obj.cells #[.int .i64 next,.slice a l.length cap] 46)).alloc (Obj.cells #[.int .i64 s,.int .i64 ty,.int .i64 li,.int .i64 qt,.float .f64 pr,.string tg] 99)).alloc (Obj.cells #[.int .i64 0,.slice none 0 0,.int .i64 0,.int .i64 0,.int .i64 0,.int .i64 0,.int .i64 0,.string ⟨#[]⟩,.slice none 0 0] 126))):=(((Below.refl _ _).alloc (Nat.le_refl _) _).alloc (by rw [hs1]; omega) _).alloc (by rw [hs2]; omega) _
 have b23:Below (w.heap.size + 1 + 1) ((w.alloc (Obj.cells #[.int .i64 next,.slice a l.length cap] 46)).alloc (Obj.cells #[.int .i64 s,.int .i64 ty,.int .i64 li,.int .i64 qt,.float .f64 pr,.string tg] 99)) (((w.alloc (Obj.cells #[.int .i64 next,.slice a l.length cap] 46)).alloc (Obj.cells #[.int .i64 s,.int .i64 ty,.int .i64 li,.int .i64 qt,.float .f64 pr,.string tg] 99)).alloc (Obj.cells #[.int .i64 0,.slice none 0 0,.int .i64 0,.int .i64 0,.int .i64 0,.int .i64 0,.int .i64 0,.string ⟨#[]⟩,.slice none 0 0] 126)):=(Below.refl _ _).alloc (by rw [hs2]; omega) _
 have b12:Below (w.heap.size + 1) (w.alloc (Obj.cells #[.int .i64 next,.slice a l.length cap] 46)) ((w.alloc (Obj.cells #[.int .i64 next,.slice a l.length cap] 46)).alloc (Obj.cells #[.int .i64 s,.int .i64 ty,.int .i64 li,.int .i64 qt,.float .f64 pr,.string tg] 99)):=(Below.refl _ _).alloc (by rw [hs1]; omega) _
 have HX:Hid (_∧_∧_):=⟨zb (zb r1 b12 (by omega)) b23 (by omega),zb r2 b23 (by omega),t3⟩
 have HS3:=hide hs3
 clear hs1 hs2 hs3 r1 r2 t3 b23 b12
 go_enter Tryz.func70,Tryz.ntmps70
 go_wp2_with fail
 go_step3
 go_wp2_with fail
 generalize (((w.alloc (Obj.cells #[.int .i64 next,.slice a l.length cap] 46)).alloc (Obj.cells #[.int .i64 s,.int .i64 ty,.int .i64 li,.int .i64 qt,.float .f64 pr,.string tg] 99)).alloc (Obj.cells #[.int .i64 0,.slice none 0 0,.int .i64 0,.int .i64 0,.int .i64 0,.int .i64 0,.int .i64 0,.string ⟨#[]⟩,.slice none 0 0] 126)) = W3 at HB3 HX HS3 ⊢
 have HX:Hid (W3.rangeAt w.heap.size 0 [.int .i64 next,.slice a l.length cap]∧W3.rangeAt (w.heap.size + 1) 0 [.int .i64 s,.int .i64 ty,.int .i64 li,.int .i64 qt,.float .f64 pr,.string tg]∧W3.there (w.heap.size + 1 + 1) 0 9):=za HX
 have hw3:W3.heap.size = w.heap.size + 1 + 1 + 1:=za HS3
 have HR3:=hide (zl (za HR) (za HB3) (Nat.le_refl _))
 refine zo (RG W3 (fun f=>{ tmps:=#[.agg #[.int .i64 next,.slice a l.length cap],.agg #[.int .i64 s,.int .i64 ty,.int .i64 li,.int .i64 qt,.float .f64 pr,.string tg],.pointer (some ⟨w.heap.size,0,none⟩),.pointer (some ⟨w.heap.size + 1,0,none⟩),.pointer (some ⟨w.heap.size + 1 + 1,0,none⟩),f 7,undef,undef,f 0,f 1,f 2,f 3,f 4,f 5,f 6,undef,undef,undef,undef,undef,undef,undef,undef,undef,undef,undef,undef,undef,undef,undef,undef,undef,undef,undef,undef,undef,undef,undef,undef,undef,undef,undef,undef,undef,undef,undef],defers:=[] }) 8 (DM w.heap.size W3.heap.size W3 next a cap l ⟨kk,s,ty,li,qt,ii,pr,tg⟩)) (by kernel_rfl) ?_ ?_ ?_
 ·exact ⟨fun _=>undef,rfl,⟨rfl,rfl,rfl,Nat.le_refl _,fun _ _=>rfl⟩,fun j hj=>by rw [List.getElem?_replicate] at hj; split at hj <;> simp at hj⟩
 ·rintro x A V ⟨f,rfl,hbel,hD⟩ hx hrd
  have hallx:=zab hrd hx (acyc _ (by kernel_rfl))
  have k8:x[8]? = some true:=hallx 8 (by simp)
  obtain ⟨mb,g7,hmb,-,hfin⟩:=hD 7 (hallx 7 (by simp))
  obtain ⟨a4,c4,hM⟩:=hfin k8
  have HM:=hide hM
  have HBV:=hide hbel
  have y0:V.cell? ⟨mb,0,none⟩ = some (.int .i64 next):=hM.cells 0 _ rfl
  have f0:V.frozen? ⟨mb,0,none⟩ = false:=by have:=(hM.there 0 (by omega)).2; rwa [Nat.zero_add] at this
  have hwr:IntKind.i64.wrap (next + 1) = next + 1:=by rw [IntKind.wrap_i64]; omega
  dsimp only
  simp only [g7]
  generalize f 0 = e0
  generalize f 1 = e1
  generalize f 2 = e2
  generalize f 3 = e3
  generalize f 4 = e4
  generalize f 5 = e5
  generalize f 6 = e6
  clear hD hallx hrd hx k8 hfin hM hbel g7 x f
  go_wp2_with fail
  go_step3
  go_wp2_with fail
  have HMB:=hide hmb
  clear hw3 hmb y0 f0
  go_loopw [] (fun wr=>∃ vq ll lf vt ts,Hid (MatS mb W3.heap.size wr (next + 1) vq ll ⟨next,s,tk pr,lf,li,tg⟩ vt ts)∧Hid (MI ⟨kk,s,ty,li,qt,ii,pr,tg⟩ next F ll lf ts)∧Hid (KeptBut mb W3.heap.size W3 wr)) (fun wr=>meas mb wr)
  case atStart=>exact ⟨_,l,qt,_,[],matS_next (za HM) (next + 1),za HMI,zi (zA (za HBV) (Nat.le_refl _)) (zbv V 0 _)⟩
  case round =>
   obtain ⟨vq,ll,lf,vt,ts,hM,hI,hK⟩:=hrel
   have y5:wr.cell? ⟨mb,5,none⟩ = some (.int .i64 lf):=(za hM).cells 5 _ rfl
   obtain ⟨av,cv,rfl⟩:∃ a c,vt = .slice a ts.length c:=by
    rcases (za hM).erow.2 with ⟨e,e2⟩ | ⟨g,cap,cur,e,_⟩
    ·exact ⟨none,0,by rw [e,e2]⟩
    ·exact ⟨_,_,e⟩
   obtain ⟨aq,cq,rfl⟩:∃ a c,vq = .slice a ll.length c:=by
    rcases (za hM).orow.2 with ⟨e,e2⟩ | ⟨g,cap,cur,e,_⟩
    ·exact ⟨none,0,by rw [e,e2]⟩
    ·exact ⟨_,_,e⟩
   by_cases hlf:0 < lf
   ·have HGL:=hide (za hI).good
    have HLB:Hid (∀ o' ∈ ll,0 ≤ o'.left∧o'.left ≤ 1000000):=fun o' ho'=>by have:=(za HGL).left o' ho'; omega
    have HRW:=hide (zM (za hM).orow (by have:=(za HGL).len; omega))
    generalize hsd:othS s = sd
    have HSD:=hide hsd
    generalize hq:quOf (decide (sd = 1)) (zz ll sd) = q
    have hfr:=frOf_eq q
    generalize hx:hdO q = x at hfr
    generalize hfb:hdF q = fb at hfr
    have HFR:Hid (frOf (quOf (decide (sd = 1)) (zz ll sd)) = .tuple #[.agg #[.int .i64 x.id,.int .i64 x.side,.int .i64 x.ticks,.int .i64 x.left,.int .i64 x.life,.string x.tag],.bool fb]):=by show _ = _; rw [hq]; exact hfr
    have HFO:Hid (zaA ll (othS s) = if fb = true then some x else none):=by
     show _ = _
     rw [zaA,hsd,hq,← hx,← hfb,hdO,hdF]
     cases q.head? <;> rfl
    clear hsd hq hfr hx hfb q
    have hs3:=za HS3
    have hc3:∀ j,wr.cell? ⟨w.heap.size + 1,j,none⟩ = W3.cell? ⟨w.heap.size + 1,j,none⟩:=fun j=>World.cell?_of_block (a:=⟨w.heap.size + 1,j,none⟩) ((za hK).block (w.heap.size + 1) (by omega) (by have:=za HMB; omega))
    have HN3:Hid (wr.rangeAt (w.heap.size + 1) 0 [.int .i64 s,.int .i64 ty,.int .i64 li,.int .i64 qt,.float .f64 pr,.string tg]):=fun j u hj=>(hc3 _).trans ((za HX).2.1 j u hj)
    have hl3:w.heap.size + 1 < wr.heap.size:=by have:=(za hK).size; omega
    clear hc3 hs3
    go_wp2_with fail
    refine zo (RG wr (fun f=>{ tmps:=#[.agg #[.int .i64 next,.slice a l.length cap],.agg #[.int .i64 s,.int .i64 ty,.int .i64 li,.int .i64 qt,.float .f64 pr,.string tg],.pointer (some ⟨w.heap.size,0,none⟩),.pointer (some ⟨w.heap.size + 1,0,none⟩),.pointer (some ⟨w.heap.size + 1 + 1,0,none⟩),.pointer (some ⟨mb,0,none⟩),f 11,f 13,e0,e1,e2,e3,e4,e5,e6,.pointer (some ⟨mb,0,none⟩),.pointer (some ⟨mb,0,none⟩),.int .i64 next,.int .i64 (next + 1),.pointer (some ⟨mb,0,none⟩),.pointer (some ⟨mb,0,none⟩),.pointer (some ⟨mb,2,none⟩),.pointer (some ⟨mb,5,none⟩),.int .i64 lf,.bool true,f 8,f 0,f 1,f 2,f 3,f 4,f 5,f 6,f 7,f 9,f 10,u36,u37,u38,u39,u40,u41,u42,u43,u44,undef],defers:=[] }) 12 (DQ mb (w.heap.size + 1) wr (.agg #[.int .i64 (next + 1),.slice aq ll.length cq]) s sd ll x fb)) (by kernel_rfl) ?_ ?_ ?_
    ·exact ⟨fun j=>if j = 0 then u26 else if j = 1 then u27 else if j = 2 then u28 else if j = 3 then u29 else if j = 4 then u30 else if j = 5 then u31 else if j = 6 then u32 else if j = 7 then u33 else if j = 8 then u25 else if j = 9 then u34 else if j = 10 then u35 else if j = 11 then u6 else if j = 13 then u7 else undef,rfl,⟨rfl,rfl,rfl,Nat.le_refl _,fun _ _=>rfl⟩,fun j hj=>by rw [List.getElem?_replicate] at hj; split at hj <;> simp at hj⟩
    ·rintro xx A X ⟨f,rfl,hbel,hD⟩ hx hrd
     have hallx:=zac hrd hx (by kernel_rfl)
     have k12:xx[12]? = some true:=hallx 12 (by simp)
     have g13:f 13 = .bool fb:=hD 13 (hallx 13 (by simp))
     obtain ⟨pb,g11,hpb,-,hfin⟩:=hD 11 (hallx 11 (by simp))
     obtain ⟨hrg,hplt⟩:=hfin k12
     have HM2:=hide (zbj (za hM) hbel)
     have HK2:=hide (zi (za hK) (zA hbel (za hM).le))
     have o0:=zb (za HN3) hbel hl3 0 _ rfl
     have o1:=zb (za HN3) hbel hl3 1 _ rfl
     have o2:=zb (za HN3) hbel hl3 2 _ rfl
     have o3:=zb (za HN3) hbel hl3 3 _ rfl
     have o4:=zb (za HN3) hbel hl3 4 _ rfl
     have o5:=zb (za HN3) hbel hl3 5 _ rfl
     have HRG:=hide hrg
     obtain ⟨p0,p1,p2,p3,p4,p5⟩:=zD hrg
     simp only [Nat.zero_add] at o0 o1 o2 o3 o4 o5 p0 p1 p2 p3 p4 p5
     dsimp only
     simp only [g13,g11]
     generalize f 0 = b0
     generalize f 1 = b1
     generalize f 2 = b2
     generalize f 3 = b3
     generalize f 4 = b4
     generalize f 5 = b5
     generalize f 6 = b6
     generalize f 7 = b7
     generalize f 8 = b8
     generalize f 9 = b9
     generalize f 10 = b10
     clear hD hallx hrd hx k12 hfin hbel g11 g13 hrg hpb f xx y5
     cases fb
     ·have HFE:Hid (F = (ll,lf,ts)):=mi_none (za hI) (by have:=za HFO; simpa using this)
      clear o0 o1 o2 o3 o4 o5 p0 p1 p2 p3 p4 p5
      have hth:X.there (w.heap.size + 1 + 1) 0 9:=fun j hj=>by
       have hb:=(za HK2).block (w.heap.size + 1 + 1) (by have:=za HS3; omega) (by have:=za HS3; have:=za HMB; omega)
       have:=(za HX).2.2 j hj
       rw [World.cell?_of_block (a:=⟨w.heap.size + 1 + 1,0 + j,none⟩) hb,World.frozen?_of_block (a:=⟨w.heap.size + 1 + 1,0 + j,none⟩) hb]
       exact this
      have HEND:=hide (match_end (za HM2) (za HK2) (za HB3) (za HS3) (za HMB) [.int .i64 (next + 1),.slice aq ll.length cq,.int .i64 next,.int .i64 s,.int .i64 (tk pr),.int .i64 lf,.int .i64 li,.string tg,.slice av ts.length cv] rfl hth)
      have c0:=(za HM2).cells 0 _ rfl
      have c1:=(za HM2).cells 1 _ rfl
      have c2:=(za HM2).cells 2 _ rfl
      have c3:=(za HM2).cells 3 _ rfl
      have c4:=(za HM2).cells 4 _ rfl
      have c5:=(za HM2).cells 5 _ rfl
      have c6:=(za HM2).cells 6 _ rfl
      have c7:=(za HM2).cells 7 _ rfl
      have c8:=(za HM2).cells 8 _ rfl
      simp only [Nat.zero_add] at c0 c1 c2 c3 c4 c5 c6 c7 c8
      obtain ⟨v0,z0,q0⟩:=zE hth 0 (by omega)
      obtain ⟨v1,z1,q1⟩:=zE hth 1 (by omega)
      obtain ⟨v2,z2,q2⟩:=zE hth 2 (by omega)
      obtain ⟨v3,z3,q3⟩:=zE hth 3 (by omega)
      obtain ⟨v4,z4,q4⟩:=zE hth 4 (by omega)
      obtain ⟨v5,z5,q5⟩:=zE hth 5 (by omega)
      obtain ⟨v6,z6,q6⟩:=zE hth 6 (by omega)
      obtain ⟨v7,z7,q7⟩:=zE hth 7 (by omega)
      obtain ⟨v8,z8,q8⟩:=zE hth 8 (by omega)
      simp only [Nat.zero_add] at z0 q0 z1 q1 z2 q2 z3 q3 z4 q4 z5 q5 z6 q6 z7 q7 z8 q8
      clear hth
      go_wp2_with fail
      try simp (config:={ zetaDelta:=true }) only [Exit.noGoto_ret]
      change bodyPost _ _ _ _ _ (X.setCells (w.heap.size + 1 + 1) 0 [.int .i64 (next + 1),.slice aq ll.length cq,.int .i64 next,.int .i64 s,.int .i64 (tk pr),.int .i64 lf,.int .i64 li,.string tg,.slice av ts.length cv])
      generalize X.setCells (w.heap.size + 1 + 1) 0 [.int .i64 (next + 1),.slice aq ll.length cq,.int .i64 next,.int .i64 s,.int .i64 (tk pr),.int .i64 lf,.int .i64 li,.string tg,.slice av ts.length cv] = WE at HEND ⊢
      have d0:WE.cell? ⟨w.heap.size + 1 + 1,0,none⟩ = some (.int .i64 (next + 1)):=(za HEND).1 0 _ rfl
      have d1:WE.cell? ⟨w.heap.size + 1 + 1,1,none⟩ = some (.slice aq ll.length cq):=(za HEND).1 1 _ rfl
      have d2:WE.cell? ⟨w.heap.size + 1 + 1,2,none⟩ = some (.int .i64 next):=(za HEND).1 2 _ rfl
      have d3:WE.cell? ⟨w.heap.size + 1 + 1,3,none⟩ = some (.int .i64 s):=(za HEND).1 3 _ rfl
      have d4:WE.cell? ⟨w.heap.size + 1 + 1,4,none⟩ = some (.int .i64 (tk pr)):=(za HEND).1 4 _ rfl
      have d5:WE.cell? ⟨w.heap.size + 1 + 1,5,none⟩ = some (.int .i64 lf):=(za HEND).1 5 _ rfl
      have d6:WE.cell? ⟨w.heap.size + 1 + 1,6,none⟩ = some (.int .i64 li):=(za HEND).1 6 _ rfl
      have d7:WE.cell? ⟨w.heap.size + 1 + 1,7,none⟩ = some (.string tg):=(za HEND).1 7 _ rfl
      have d8:WE.cell? ⟨w.heap.size + 1 + 1,8,none⟩ = some (.slice av ts.length cv):=(za HEND).1 8 _ rfl
      try simp only [Exit.inBlock,Exit.then]
      refine bodyPost_ret (by simp [results,Tryz.results70,go_sem,d0,d1,d2,d3,d4,d5,d6,d7,d8]; try rfl) rfl ?_
      rw [za HFE]
      exact ⟨_,_,rfl,(za HEND).2.1,(za HEND).2.2.1,(za HEND).2.2.2⟩
     ·have HFO:Hid (zaA ll (othS s) = some x):=by show _ = _; have:=za HFO; simpa using this
      go_wp2_with fail
      refine (meets_any ⟨kk,s,ty,li,qt,ii,pr,tg⟩ x X).mono ?_
      rintro e w5 ⟨rfl,hb5⟩
      have HM5:=hide (zbj (za HM2) hb5)
      have HK5:=hide (zi (za HK2) (zA hb5 (za HM2).le))
      obtain ⟨s0,s1,s2,s3,s4,s5⟩:=zD (zb (za HRG) hb5 hplt)
      simp only [Nat.zero_add] at s0 s1 s2 s3 s4 s5
      clear o0 o1 o2 o3 o4 o5 p0 p1 p2 p3 p4 p5 hb5
      cases hme:zcn ⟨kk,s,ty,li,qt,ii,pr,tg⟩ x
      ·have HFE:Hid (F = (ll,lf,ts)):=mi_stop (za hI) (za HFO) hme
       clear s0 s1 s2 s3 s4 s5 hme
       have hth:w5.there (w.heap.size + 1 + 1) 0 9:=fun j hj=>by
        have hb:=(za HK5).block (w.heap.size + 1 + 1) (by have:=za HS3; omega) (by have:=za HS3; have:=za HMB; omega)
        have:=(za HX).2.2 j hj
        rw [World.cell?_of_block (a:=⟨w.heap.size + 1 + 1,0 + j,none⟩) hb,World.frozen?_of_block (a:=⟨w.heap.size + 1 + 1,0 + j,none⟩) hb]
        exact this
       have HEND:=hide (match_end (za HM5) (za HK5) (za HB3) (za HS3) (za HMB) [.int .i64 (next + 1),.slice aq ll.length cq,.int .i64 next,.int .i64 s,.int .i64 (tk pr),.int .i64 lf,.int .i64 li,.string tg,.slice av ts.length cv] rfl hth)
       have c0:=(za HM5).cells 0 _ rfl
       have c1:=(za HM5).cells 1 _ rfl
       have c2:=(za HM5).cells 2 _ rfl
       have c3:=(za HM5).cells 3 _ rfl
       have c4:=(za HM5).cells 4 _ rfl
       have c5:=(za HM5).cells 5 _ rfl
       have c6:=(za HM5).cells 6 _ rfl
       have c7:=(za HM5).cells 7 _ rfl
       have c8:=(za HM5).cells 8 _ rfl
       simp only [Nat.zero_add] at c0 c1 c2 c3 c4 c5 c6 c7 c8
       obtain ⟨v0,z0,q0⟩:=zE hth 0 (by omega)
       obtain ⟨v1,z1,q1⟩:=zE hth 1 (by omega)
       obtain ⟨v2,z2,q2⟩:=zE hth 2 (by omega)
       obtain ⟨v3,z3,q3⟩:=zE hth 3 (by omega)
       obtain ⟨v4,z4,q4⟩:=zE hth 4 (by omega)
       obtain ⟨v5,z5,q5⟩:=zE hth 5 (by omega)
       obtain ⟨v6,z6,q6⟩:=zE hth 6 (by omega)
       obtain ⟨v7,z7,q7⟩:=zE hth 7 (by omega)
       obtain ⟨v8,z8,q8⟩:=zE hth 8 (by omega)
       simp only [Nat.zero_add] at z0 q0 z1 q1 z2 q2 z3 q3 z4 q4 z5 q5 z6 q6 z7 q7 z8 q8
       clear hth
       go_wp2_with fail
       try simp (config:={ zetaDelta:=true }) only [Exit.noGoto_ret]
       change bodyPost _ _ _ _ _ (w5.setCells (w.heap.size + 1 + 1) 0 [.int .i64 (next + 1),.slice aq ll.length cq,.int .i64 next,.int .i64 s,.int .i64 (tk pr),.int .i64 lf,.int .i64 li,.string tg,.slice av ts.length cv])
       generalize w5.setCells (w.heap.size + 1 + 1) 0 [.int .i64 (next + 1),.slice aq ll.length cq,.int .i64 next,.int .i64 s,.int .i64 (tk pr),.int .i64 lf,.int .i64 li,.string tg,.slice av ts.length cv] = WE at HEND ⊢
       have d0:WE.cell? ⟨w.heap.size + 1 + 1,0,none⟩ = some (.int .i64 (next + 1)):=(za HEND).1 0 _ rfl
       have d1:WE.cell? ⟨w.heap.size + 1 + 1,1,none⟩ = some (.slice aq ll.length cq):=(za HEND).1 1 _ rfl
       have d2:WE.cell? ⟨w.heap.size + 1 + 1,2,none⟩ = some (.int .i64 next):=(za HEND).1 2 _ rfl
       have d3:WE.cell? ⟨w.heap.size + 1 + 1,3,none⟩ = some (.int .i64 s):=(za HEND).1 3 _ rfl
       have d4:WE.cell? ⟨w.heap.size + 1 + 1,4,none⟩ = some (.int .i64 (tk pr)):=(za HEND).1 4 _ rfl
       have d5:WE.cell? ⟨w.heap.size + 1 + 1,5,none⟩ = some (.int .i64 lf):=(za HEND).1 5 _ rfl
       have d6:WE.cell? ⟨w.heap.size + 1 + 1,6,none⟩ = some (.int .i64 li):=(za HEND).1 6 _ rfl
       have d7:WE.cell? ⟨w.heap.size + 1 + 1,7,none⟩ = some (.string tg):=(za HEND).1 7 _ rfl
       have d8:WE.cell? ⟨w.heap.size + 1 + 1,8,none⟩ = some (.slice av ts.length cv):=(za HEND).1 8 _ rfl
       try simp only [Exit.inBlock,Exit.then]
       refine bodyPost_ret (by simp [results,Tryz.results70,go_sem,d0,d1,d2,d3,d4,d5,d6,d7,d8]; try rfl) rfl ?_
       rw [za HFE]
       exact ⟨_,_,rfl,(za HEND).2.1,(za HEND).2.2.1,(za HEND).2.2.2⟩
      ·obtain ⟨k,hpl,hkk,hI6,hms⟩:=mi_step (za hI) hlf (za HFO) hme
       have hxm:=(za HGL).left x (List.mem_of_getElem? hkk)
       have HST:Hid (_∧_∧_∧_):=⟨hpl,hkk,hI6,hms⟩
       have hl1:=(za hI).l1
       have hl20:=(za HGL).len
       have hfew:=(za hI).few
       have HNUM:Hid (0 ≤ lf∧lf ≤ 1000000∧0 ≤ x.left∧x.left ≤ 1000000∧ll.length ≤ 1000∧ts.length ≤ 1000):=⟨by omega,by omega,by omega,by omega,by omega,by omega⟩
       clear hpl hkk hI6 hms hme hxm hl1 hl20 hfew
       go_wp2_with fail
       refine (trade_any mb W3.heap.size (next + 1) _ ll ⟨next,s,tk pr,lf,li,tg⟩ _ ts x k w5 (za HM5) (za HST).1 (za HST).2.1 (za HNUM).2.2.2.2.1 (za HNUM).2.2.2.2.2 (za HNUM).1 (za HNUM).2.1 (za HNUM).2.2.1 (za HNUM).2.2.2.1 _ rfl).mono ?_
       rintro e w6 ⟨vq',vt',rfl,hM6,hK6⟩
       have HM6:=hide hM6
       have HK6:=hide hK6
       clear hM6 hK6 s0 s1 s2 s3 s4 s5
       go_wp2_with fail
       go_roundw
       case rel=>exact ⟨vq',_,_,vt',_,za HM6,(za HST).2.2.1,zi (za HK5) (za HK6)⟩
       case measure =>
        rw [meas_eq (za HM6),meas_eq (za hM)]
        have:=(za HST).2.2.2
        simp only [if_pos hlf]
        exact this
    ·rintro xx A X i op ⟨f,rfl,hbel,hD⟩ hcl hx ho hxi hall
     have n12':i ≠ 10→i < 12→¬ xx[12]? = some true:=fun hne hlt h12=>by
      have h11:=hcl 12 _ rfl h12 ⟨11,.data⟩ (by simp) rfl
      have h9:=hcl 12 _ rfl h12 ⟨9,.data⟩ (by simp) rfl
      have h8:=hcl 9 _ rfl h9 ⟨8,.data⟩ (by simp) rfl
      have h7:=hcl 8 _ rfl h8 ⟨7,.data⟩ (by simp) rfl
      have h6:=hcl 7 _ rfl h7 ⟨6,.data⟩ (by simp) rfl
      have h5:=hcl 6 _ rfl h6 ⟨5,.data⟩ (by simp) rfl
      have h1:=hcl 5 _ rfl h5 ⟨1,.data⟩ (by simp) rfl
      have h4:=hcl 5 _ rfl h5 ⟨4,.data⟩ (by simp) rfl
      have h0:=hcl 1 _ rfl h1 ⟨0,.data⟩ (by simp) rfl
      have h3:=hcl 4 _ rfl h4 ⟨3,.data⟩ (by simp) rfl
      have h2:=hcl 3 _ rfl h3 ⟨2,.data⟩ (by simp) rfl
      have hallk:∀ j,j ≠ 10→j < 12→xx[j]? = some true:=fun j hj0 hj=>by
       rcases (by omega:j = 0 ∨ j = 1 ∨ j = 2 ∨ j = 3 ∨ j = 4 ∨ j = 5 ∨ j = 6 ∨ j = 7 ∨ j = 8 ∨ j = 9 ∨ j = 11) with rfl | rfl | rfl | rfl | rfl | rfl | rfl | rfl | rfl | rfl | rfl <;> assumption
      rw [hallk i hne hlt] at hxi; cases hxi
     clear hcl y5
     have HBX:=hide hbel
     have HD:=hide hD
     have HRX:=hide (zl (za HRW) hbel (Nat.le_refl _))
     have z0:=zb (za hM).cells hbel (za hM).lt 0 _ rfl
     have z1:=zb (za hM).cells hbel (za hM).lt 1 _ rfl
     have o0:=zb (za HN3) hbel hl3 0 _ rfl
     rw [Nat.zero_add] at z0 z1 o0
     match i,ho with
    | 0,ho =>
     obtain rfl:=Option.some.inj ho
     clear hall hD hbel
     rw [if_pos (by rfl)]
     unfold Oper.wp
     go_simp
     exact ⟨upd f 0 (.pointer (some ⟨mb,0,none⟩)),by simp [upd],zn (za HBX) (za HD) (by decide) rfl⟩
    | 1,ho =>
     obtain rfl:=Option.some.inj ho
     have g:f 0 = .pointer (some ⟨mb,0,none⟩):=hD 0 (hall ⟨0,.data⟩ (by simp) rfl)
     clear hall hD hbel
     rw [if_pos (by rfl)]
     unfold Oper.wp
     go_simp
     exact ⟨upd f 1 (.agg #[.int .i64 (next + 1),.slice aq ll.length cq]),by simp [upd,g],zn (za HBX) (za HD) (by decide) rfl⟩
    | 2,ho =>
     obtain rfl:=Option.some.inj ho
     clear hall hD hbel
     rw [if_pos (by rfl)]
     unfold Oper.wp
     go_simp
     exact ⟨upd f 2 (.pointer (some ⟨w.heap.size + 1,0,none⟩)),by simp [upd],zn (za HBX) (za HD) (by decide) rfl⟩
    | 3,ho =>
     obtain rfl:=Option.some.inj ho
     have g:f 2 = .pointer (some ⟨w.heap.size + 1,0,none⟩):=hD 2 (hall ⟨2,.data⟩ (by simp) rfl)
     clear hall hD hbel
     rw [if_pos (by rfl)]
     unfold Oper.wp
     go_simp
     exact ⟨upd f 3 (.int .i64 s),by simp [upd,g],zn (za HBX) (za HD) (by decide) rfl⟩
    | 4,ho =>
     obtain rfl:=Option.some.inj ho
     have g:f 3 = .int .i64 s:=hD 3 (hall ⟨3,.data⟩ (by simp) rfl)
     clear hall hD hbel
     rw [if_pos (by rfl)]
     unfold Oper.wp
     go_simp
     refine (otherSide_any s X).mono ?_
     rw [za HSD]
     rintro e w4 ⟨rfl,rfl⟩
     exact ⟨upd f 4 (.int .i64 sd),by simp [upd,g],zn (za HBX) (za HD) (by decide) rfl⟩
    | 5,ho =>
     obtain rfl:=Option.some.inj ho
     have g1:f 1 = .agg #[.int .i64 (next + 1),.slice aq ll.length cq]:=hD 1 (hall ⟨1,.data⟩ (by simp) rfl)
     have g4:f 4 = .int .i64 sd:=hD 4 (hall ⟨4,.data⟩ (by simp) rfl)
     have n12:=n12' (by omega) (by omega)
     clear hall hD hbel
     rw [if_pos (by rfl)]
     unfold Oper.wp
     go_simp
     by_cases hsd:sd = 1
     ·subst hsd
      refine (sideOf_buy (next + 1) _ ll X (za HRX) (za HGL).len (za HLB)).mono ?_
      rintro e w4 ⟨b,rfl,ht,hle,hb4⟩
      exact ⟨upd f 5 (zbY b),by simp [upd,g1,g4],zbh (za HBX) (za HD) hb4 (by decide) (dq_grow n12 hb4) (fun _=>.inl ⟨rfl,b,rfl,ht⟩)⟩
     ·refine (sideOf_sell (next + 1) sd hsd _ ll X (za HRX) (za HGL).len (za HLB)).mono ?_
      rintro e w4 ⟨b,rfl,ht,hle,hb4⟩
      exact ⟨upd f 5 (zbZ b),by simp [upd,g1,g4],zbh (za HBX) (za HD) hb4 (by decide) (dq_grow n12 hb4) (fun _=>.inr ⟨hsd,b,rfl,ht⟩)⟩
    | 6,ho =>
     obtain rfl:=Option.some.inj ho
     have n12:=n12' (by omega) (by omega)
     rcases hD 5 (hall ⟨5,.data⟩ (by simp) rfl) n12 with ⟨hsd,b,g5,ht⟩ | ⟨hsd,b,g5,ht⟩
     ·subst hsd
      have HT:=hide ht
      have hfl:=field0_bm b X
      clear hall hD hbel ht
      rw [if_pos (by rfl)]
      unfold Oper.wp
      go_simp
      exact ⟨upd f 6 (.func (.func 111) #[.pointer (some ⟨b,0,none⟩)] #[]),by simp [upd,g5],zn (za HBX) (za HD) (by decide) (fun _=>.inl ⟨rfl,b,rfl,za HT⟩)⟩
     ·have HT:=hide ht
      have hfl:=field0_sm b X
      clear hall hD hbel ht
      rw [if_pos (by rfl)]
      unfold Oper.wp
      go_simp
      exact ⟨upd f 6 (.func (.func 115) #[.pointer (some ⟨b,0,none⟩)] #[]),by simp [upd,g5],zn (za HBX) (za HD) (by decide) (fun _=>.inr ⟨hsd,b,rfl,za HT⟩)⟩
    | 7,ho =>
     obtain rfl:=Option.some.inj ho
     have n12:=n12' (by omega) (by omega)
     rcases hD 6 (hall ⟨6,.data⟩ (by simp) rfl) n12 with ⟨hsd,b,g6,ht⟩ | ⟨hsd,b,g6,ht⟩
     ·subst hsd
      have HT:=hide ht
      have HE:Hid (frOf (quOf true (zz ll 1)) = .tuple #[.agg #[.int .i64 x.id,.int .i64 x.side,.int .i64 x.ticks,.int .i64 x.left,.int .i64 x.life,.string x.tag],.bool fb]):=by
       show _ = _
       have:=za HFR
       simpa using this
      clear hall hD hbel ht
      rw [if_pos (by rfl)]
      unfold Oper.wp
      go_simp
      refine (front_b b 1 (zz ll 1) X (za HT) (Nat.le_trans (List.length_filter_le _ _) (za HGL).len)).mono ?_
      rw [za HE]
      rintro e w4 ⟨rfl,hb4⟩
      exact ⟨upd f 7 (.tuple #[.agg #[.int .i64 x.id,.int .i64 x.side,.int .i64 x.ticks,.int .i64 x.left,.int .i64 x.life,.string x.tag],.bool fb]),by simp [upd,g6],zbh (za HBX) (za HD) hb4 (by decide) (dq_grow n12 hb4) rfl⟩
     ·have HT:=hide ht
      have HE:Hid (frOf (quOf false (zz ll sd)) = .tuple #[.agg #[.int .i64 x.id,.int .i64 x.side,.int .i64 x.ticks,.int .i64 x.left,.int .i64 x.life,.string x.tag],.bool fb]):=by
       have:=za HFR
       rw [decide_eq_false hsd] at this
       exact this
      clear hall hD hbel ht
      rw [if_pos (by rfl)]
      unfold Oper.wp
      go_simp
      refine (front_s b sd (zz ll sd) X (za HT) (Nat.le_trans (List.length_filter_le _ _) (za HGL).len)).mono ?_
      rw [za HE]
      rintro e w4 ⟨rfl,hb4⟩
      exact ⟨upd f 7 (.tuple #[.agg #[.int .i64 x.id,.int .i64 x.side,.int .i64 x.ticks,.int .i64 x.left,.int .i64 x.life,.string x.tag],.bool fb]),by simp [upd,g6],zbh (za HBX) (za HD) hb4 (by decide) (dq_grow n12 hb4) rfl⟩
    | 8,ho =>
     obtain rfl:=Option.some.inj ho
     have g:f 7 = .tuple #[.agg #[.int .i64 x.id,.int .i64 x.side,.int .i64 x.ticks,.int .i64 x.left,.int .i64 x.life,.string x.tag],.bool fb]:=hD 7 (hall ⟨7,.data⟩ (by simp) rfl)
     clear hall hD hbel
     rw [if_pos (by rfl)]
     unfold Oper.wp
     go_simp
     exact ⟨upd f 8 (.tuple #[.agg #[.int .i64 x.id,.int .i64 x.side,.int .i64 x.ticks,.int .i64 x.left,.int .i64 x.life,.string x.tag],.bool fb]),by simp [upd,g],zn (za HBX) (za HD) (by decide) rfl⟩
    | 9,ho =>
     obtain rfl:=Option.some.inj ho
     have g:f 8 = .tuple #[.agg #[.int .i64 x.id,.int .i64 x.side,.int .i64 x.ticks,.int .i64 x.left,.int .i64 x.life,.string x.tag],.bool fb]:=hD 8 (hall ⟨8,.data⟩ (by simp) rfl)
     clear hall hD hbel
     rw [if_pos (by rfl)]
     unfold Oper.wp
     go_simp
     exact ⟨upd f 9 (.agg #[.int .i64 x.id,.int .i64 x.side,.int .i64 x.ticks,.int .i64 x.left,.int .i64 x.life,.string x.tag]),by simp [upd,g],zn (za HBX) (za HD) (by decide) rfl⟩
    | 10,ho =>
     obtain rfl:=Option.some.inj ho
     have g:f 8 = .tuple #[.agg #[.int .i64 x.id,.int .i64 x.side,.int .i64 x.ticks,.int .i64 x.left,.int .i64 x.life,.string x.tag],.bool fb]:=hD 8 (hall ⟨8,.data⟩ (by simp) rfl)
     clear hall hD hbel
     rw [if_pos (by rfl)]
     unfold Oper.wp
     go_simp
     exact ⟨upd f 10 (.bool fb),by simp [upd,g],zn (za HBX) (za HD) (by decide) rfl⟩
    | 11,ho =>
     obtain rfl:=Option.some.inj ho
     have n12:=n12' (by omega) (by omega)
     clear hall hD hbel
     rw [if_pos (by rfl)]
     unfold Oper.wp
     go_simp
     have hb4:Below X.heap.size X (X.alloc (Obj.cells #[.int .i64 0,.int .i64 0,.int .i64 0,.int .i64 0,.int .i64 0,.string ⟨#[]⟩] 78)):=(Below.refl _ _).alloc (Nat.le_refl _) _
     exact ⟨upd f 11 (.pointer (some ⟨X.heap.size,0,none⟩)),by simp [upd],zbh (za HBX) (za HD) hb4 (by decide) (dq_grow n12 hb4) ⟨X.heap.size,rfl,(za HBX).size,fun _=>⟨zw X [.int .i64 0,.int .i64 0,.int .i64 0,.int .i64 0,.int .i64 0,.string ⟨#[]⟩] _,by rw [ze]; omega⟩,fun h=>absurd h n12⟩⟩
    | 12,ho =>
     obtain rfl:=Option.some.inj ho
     have n12:¬ xx[12]? = some true:=by rw [hxi]; simp
     have g9:f 9 = .agg #[.int .i64 x.id,.int .i64 x.side,.int .i64 x.ticks,.int .i64 x.left,.int .i64 x.life,.string x.tag]:=hD 9 (hall ⟨9,.data⟩ (by simp) rfl)
     obtain ⟨pb,g11,hpb,hth,-⟩:=hD 11 (hall ⟨11,.data⟩ (by simp) rfl)
     obtain ⟨hth,hplt⟩:=hth n12
     have HTH:=hide hth
     obtain ⟨u0,y0,q0⟩:=zE hth 0 (by omega)
     obtain ⟨u1,y1,q1⟩:=zE hth 1 (by omega)
     obtain ⟨u2,y2,q2⟩:=zE hth 2 (by omega)
     obtain ⟨u3,y3,q3⟩:=zE hth 3 (by omega)
     obtain ⟨u4,y4,q4⟩:=zE hth 4 (by omega)
     obtain ⟨u5,y5,q5⟩:=zE hth 5 (by omega)
     simp only [Nat.zero_add] at y0 q0 y1 q1 y2 q2 y3 q3 y4 q4 y5 q5
     clear hall hD hbel hth
     rw [if_pos (by rfl)]
     unfold Oper.wp
     go_simp
     refine ⟨upd f 12 undef,by simp [upd,g9,g11],rgx_last (zm pb hpb [.int .i64 x.id,.int .i64 x.side,.int .i64 x.ticks,.int .i64 x.left,.int .i64 x.life,.string x.tag] 0 X (za HBX)) (za HD) hxi (fun j hj hxj h=>dq_last j hj h (fun hj11=>?_)) trivial⟩
     subst hj11
     refine ⟨pb,g11,hpb,fun h=>absurd trivial h,fun _=>⟨?_,?_⟩⟩
     ·exact World.rangeAt_setCells_same X pb 0 [.int .i64 x.id,.int .i64 x.side,.int .i64 x.ticks,.int .i64 x.left,.int .i64 x.life,.string x.tag] (fun j hj=>za HTH j hj)
     ·show pb < (X.setCells pb 0 [.int .i64 x.id,.int .i64 x.side,.int .i64 x.ticks,.int .i64 x.left,.int .i64 x.life,.string x.tag]).heap.size
      simp only [World.setCells,World.setCell,Array.size_modify]; exact hplt
    | 13,ho =>
     obtain rfl:=Option.some.inj ho
     have g:f 10 = .bool fb:=hD 10 (hall ⟨10,.data⟩ (by simp) rfl)
     clear hall hD hbel
     rw [if_pos (by rfl)]
     unfold Oper.wp
     go_simp
     exact ⟨upd f 13 (.bool fb),by simp [upd,g],zn (za HBX) (za HD) (by decide) rfl⟩
    | i + 14,ho=>simp at ho
   ·have HFE:Hid (F = (ll,lf,ts)):=mi_done (za hI) hlf
    have hth:wr.there (w.heap.size + 1 + 1) 0 9:=fun j hj=>by
     have hb:=(za hK).block (w.heap.size + 1 + 1) (by have:=za HS3; omega) (by have:=za HS3; have:=za HMB; omega)
     have:=(za HX).2.2 j hj
     rw [World.cell?_of_block (a:=⟨w.heap.size + 1 + 1,0 + j,none⟩) hb,World.frozen?_of_block (a:=⟨w.heap.size + 1 + 1,0 + j,none⟩) hb]
     exact this
    have HEND:=hide (match_end (za hM) (za hK) (za HB3) (za HS3) (za HMB) [.int .i64 (next + 1),.slice aq ll.length cq,.int .i64 next,.int .i64 s,.int .i64 (tk pr),.int .i64 lf,.int .i64 li,.string tg,.slice av ts.length cv] rfl hth)
    have c0:=(za hM).cells 0 _ rfl
    have c1:=(za hM).cells 1 _ rfl
    have c2:=(za hM).cells 2 _ rfl
    have c3:=(za hM).cells 3 _ rfl
    have c4:=(za hM).cells 4 _ rfl
    have c5:=(za hM).cells 5 _ rfl
    have c6:=(za hM).cells 6 _ rfl
    have c7:=(za hM).cells 7 _ rfl
    have c8:=(za hM).cells 8 _ rfl
    simp only [Nat.zero_add] at c0 c1 c2 c3 c4 c5 c6 c7 c8
    obtain ⟨v0,z0,q0⟩:=zE hth 0 (by omega)
    obtain ⟨v1,z1,q1⟩:=zE hth 1 (by omega)
    obtain ⟨v2,z2,q2⟩:=zE hth 2 (by omega)
    obtain ⟨v3,z3,q3⟩:=zE hth 3 (by omega)
    obtain ⟨v4,z4,q4⟩:=zE hth 4 (by omega)
    obtain ⟨v5,z5,q5⟩:=zE hth 5 (by omega)
    obtain ⟨v6,z6,q6⟩:=zE hth 6 (by omega)
    obtain ⟨v7,z7,q7⟩:=zE hth 7 (by omega)
    obtain ⟨v8,z8,q8⟩:=zE hth 8 (by omega)
    simp only [Nat.zero_add] at z0 q0 z1 q1 z2 q2 z3 q3 z4 q4 z5 q5 z6 q6 z7 q7 z8 q8
    clear hth
    go_wp2_with fail
    try simp (config:={ zetaDelta:=true }) only [Exit.noGoto_ret]
    change bodyPost _ _ _ _ _ (wr.setCells (w.heap.size + 1 + 1) 0 [.int .i64 (next + 1),.slice aq ll.length cq,.int .i64 next,.int .i64 s,.int .i64 (tk pr),.int .i64 lf,.int .i64 li,.string tg,.slice av ts.length cv])
    generalize wr.setCells (w.heap.size + 1 + 1) 0 [.int .i64 (next + 1),.slice aq ll.length cq,.int .i64 next,.int .i64 s,.int .i64 (tk pr),.int .i64 lf,.int .i64 li,.string tg,.slice av ts.length cv] = WE at HEND ⊢
    have d0:WE.cell? ⟨w.heap.size + 1 + 1,0,none⟩ = some (.int .i64 (next + 1)):=(za HEND).1 0 _ rfl
    have d1:WE.cell? ⟨w.heap.size + 1 + 1,1,none⟩ = some (.slice aq ll.length cq):=(za HEND).1 1 _ rfl
    have d2:WE.cell? ⟨w.heap.size + 1 + 1,2,none⟩ = some (.int .i64 next):=(za HEND).1 2 _ rfl
    have d3:WE.cell? ⟨w.heap.size + 1 + 1,3,none⟩ = some (.int .i64 s):=(za HEND).1 3 _ rfl
    have d4:WE.cell? ⟨w.heap.size + 1 + 1,4,none⟩ = some (.int .i64 (tk pr)):=(za HEND).1 4 _ rfl
    have d5:WE.cell? ⟨w.heap.size + 1 + 1,5,none⟩ = some (.int .i64 lf):=(za HEND).1 5 _ rfl
    have d6:WE.cell? ⟨w.heap.size + 1 + 1,6,none⟩ = some (.int .i64 li):=(za HEND).1 6 _ rfl
    have d7:WE.cell? ⟨w.heap.size + 1 + 1,7,none⟩ = some (.string tg):=(za HEND).1 7 _ rfl
    have d8:WE.cell? ⟨w.heap.size + 1 + 1,8,none⟩ = some (.slice av ts.length cv):=(za HEND).1 8 _ rfl
    try simp only [Exit.inBlock,Exit.then]
    refine bodyPost_ret (by simp [results,Tryz.results70,go_sem,d0,d1,d2,d3,d4,d5,d6,d7,d8]; try rfl) rfl ?_
    rw [za HFE]
    exact ⟨_,_,rfl,(za HEND).2.1,(za HEND).2.2.1,(za HEND).2.2.2⟩
 ·rintro x A V i op ⟨f,rfl,hbel,hD⟩ hcl hx ho hxi hall
  have n8':i < 8→¬ x[8]? = some true:=fun hlt h8=>by
   have h7:=hcl 8 _ rfl h8 ⟨7,.data⟩ (by simp) rfl
   have h6:=hcl 8 _ rfl h8 ⟨6,.data⟩ (by simp) rfl
   have h5:=hcl 6 _ rfl h6 ⟨5,.data⟩ (by simp) rfl
   have h1:=hcl 6 _ rfl h6 ⟨1,.data⟩ (by simp) rfl
   have h0:=hcl 1 _ rfl h1 ⟨0,.data⟩ (by simp) rfl
   have h2:=hcl 5 _ rfl h5 ⟨2,.data⟩ (by simp) rfl
   have h4:=hcl 5 _ rfl h5 ⟨4,.data⟩ (by simp) rfl
   have h3:=hcl 4 _ rfl h4 ⟨3,.data⟩ (by simp) rfl
   have hallk:∀ j,j < 8→x[j]? = some true:=fun j hj=>by
    rcases (by omega:j = 0 ∨ j = 1 ∨ j = 2 ∨ j = 3 ∨ j = 4 ∨ j = 5 ∨ j = 6 ∨ j = 7) with rfl | rfl | rfl | rfl | rfl | rfl | rfl | rfl <;> assumption
   rw [hallk i hlt] at hxi; cases hxi
  clear hcl
  have HBV:=hide hbel
  have HD:=hide hD
  have HRD:=hide (zl (za HR3) hbel (Nat.le_refl _))
  have z0:=zb (za HX).1 hbel (by omega) 0 _ rfl
  have z1:=zb (za HX).1 hbel (by omega) 1 _ rfl
  have o0:=zb (za HX).2.1 hbel (by omega) 0 _ rfl
  have o1:=zb (za HX).2.1 hbel (by omega) 1 _ rfl
  have o2:=zb (za HX).2.1 hbel (by omega) 2 _ rfl
  have o3:=zb (za HX).2.1 hbel (by omega) 3 _ rfl
  have o4:=zb (za HX).2.1 hbel (by omega) 4 _ rfl
  have o5:=zb (za HX).2.1 hbel (by omega) 5 _ rfl
  rw [Nat.zero_add] at z0 z1 o0 o1 o2 o3 o4 o5
  clear hw3
  match i,ho with
  | 0,ho =>
   obtain rfl:=Option.some.inj ho
   clear hall hD hbel
   rw [if_pos (by rfl)]
   unfold Oper.wp
   go_simp
   exact ⟨upd f 0 (.agg #[.int .i64 next,.slice a l.length cap]),by simp [upd],zn (za HBV) (za HD) (by decide) rfl⟩
  | 1,ho =>
   obtain rfl:=Option.some.inj ho
   have g:f 0 = .agg #[.int .i64 next,.slice a l.length cap]:=hD 0 (hall ⟨0,.data⟩ (by simp) rfl)
   have n8:=n8' (by omega)
   clear hall hD hbel
   rw [if_pos (by rfl)]
   unfold Oper.wp
   go_simp
   refine (copyBook_any next _ l V (za HRD) hsl (by omega)).mono ?_
   rintro e w4 ⟨v4,rfl,ho4,hb4⟩
   obtain ⟨a4,c4,rfl⟩:=rd_lenF (zM ho4 (by omega))
   exact ⟨upd f 1 (.agg #[.int .i64 next,.slice a4 l.length c4]),by simp [upd,g],zbh (za HBV) (za HD) hb4 (by decide) (dm_grow n8 hb4) ⟨a4,c4,rfl,fun _=>zaB ho4 (za HBV).size⟩⟩
  | 2,ho =>
   obtain rfl:=Option.some.inj ho
   clear hall hD hbel
   rw [if_pos (by rfl)]
   unfold Oper.wp
   go_simp
   exact ⟨upd f 2 (.agg #[.int .i64 s,.int .i64 ty,.int .i64 li,.int .i64 qt,.float .f64 pr,.string tg]),by simp [upd],zn (za HBV) (za HD) (by decide) rfl⟩
  | 3,ho =>
   obtain rfl:=Option.some.inj ho
   clear hall hD hbel
   rw [if_pos (by rfl)]
   unfold Oper.wp
   go_simp
   exact ⟨upd f 3 (.pointer (some ⟨w.heap.size,0,none⟩)),by simp [upd],zn (za HBV) (za HD) (by decide) rfl⟩
  | 4,ho =>
   obtain rfl:=Option.some.inj ho
   have g:f 3 = .pointer (some ⟨w.heap.size,0,none⟩):=hD 3 (hall ⟨3,.data⟩ (by simp) rfl)
   clear hall hD hbel
   rw [if_pos (by rfl)]
   unfold Oper.wp
   go_simp
   exact ⟨upd f 4 (.int .i64 next),by simp [upd,g],zn (za HBV) (za HD) (by decide) rfl⟩
  | 5,ho =>
   obtain rfl:=Option.some.inj ho
   have g2:f 2 = .agg #[.int .i64 s,.int .i64 ty,.int .i64 li,.int .i64 qt,.float .f64 pr,.string tg]:=hD 2 (hall ⟨2,.data⟩ (by simp) rfl)
   have g4:f 4 = .int .i64 next:=hD 4 (hall ⟨4,.data⟩ (by simp) rfl)
   have n8:=n8' (by omega)
   clear hall hD hbel
   rw [if_pos (by rfl)]
   unfold Oper.wp
   go_simp
   refine (order_any ⟨kk,s,ty,li,qt,ii,pr,tg⟩ next V).mono ?_
   rintro e w4 ⟨rfl,hb4⟩
   exact ⟨upd f 5 (.agg #[.int .i64 next,.int .i64 s,.int .i64 (tk pr),.int .i64 qt,.int .i64 li,.string tg]),by simp [upd,g2,g4],zbh (za HBV) (za HD) hb4 (by decide) (dm_grow n8 hb4) rfl⟩
  | 6,ho =>
   obtain rfl:=Option.some.inj ho
   obtain ⟨a4,c4,g1,ho1⟩:=hD 1 (hall ⟨1,.data⟩ (by simp) rfl)
   have g5:f 5 = .agg #[.int .i64 next,.int .i64 s,.int .i64 (tk pr),.int .i64 qt,.int .i64 li,.string tg]:=hD 5 (hall ⟨5,.data⟩ (by simp) rfl)
   have HO1:=hide ho1
   clear hall hD hbel ho1
   rw [if_pos (by rfl)]
   unfold Oper.wp
   go_simp
   exact ⟨upd f 6 (.agg #[.int .i64 next,.slice a4 l.length c4,.int .i64 next,.int .i64 s,.int .i64 (tk pr),.int .i64 qt,.int .i64 li,.string tg,.slice none 0 0]),by simp [upd,g1,g5],zn (za HBV) (za HD) (by decide) ⟨a4,c4,rfl,za HO1⟩⟩
  | 7,ho =>
   obtain rfl:=Option.some.inj ho
   have n8:=n8' (by omega)
   clear hall hD hbel
   rw [if_pos (by rfl)]
   unfold Oper.wp
   go_simp
   have hb4:Below V.heap.size V (V.alloc (Obj.cells #[.int .i64 0,.slice none 0 0,.int .i64 0,.int .i64 0,.int .i64 0,.int .i64 0,.int .i64 0,.string ⟨#[]⟩,.slice none 0 0] 126)):=(Below.refl _ _).alloc (Nat.le_refl _) _
   exact ⟨upd f 7 (.pointer (some ⟨V.heap.size,0,none⟩)),by simp [upd],zbh (za HBV) (za HD) hb4 (by decide) (dm_grow n8 hb4) ⟨V.heap.size,rfl,(za HBV).size,fun _=>⟨zw V [.int .i64 0,.slice none 0 0,.int .i64 0,.int .i64 0,.int .i64 0,.int .i64 0,.int .i64 0,.string ⟨#[]⟩,.slice none 0 0] _,_,heap_alloc_new V _⟩,fun h=>absurd h n8⟩⟩
  | 8,ho =>
   obtain rfl:=Option.some.inj ho
   have n8:¬ x[8]? = some true:=by rw [hxi]; simp
   obtain ⟨a4,c4,g6,ho6⟩:=hD 6 (hall ⟨6,.data⟩ (by simp) rfl)
   obtain ⟨mb,g7,hmb,hth,-⟩:=hD 7 (hall ⟨7,.data⟩ (by simp) rfl)
   obtain ⟨hth,hbx⟩:=hth n8
   have HO6:=hide (ho6 n8)
   have HTH:=hide hth
   have HBX:=hide hbx
   obtain ⟨u0,y0,q0⟩:=zE hth 0 (by omega)
   obtain ⟨u1,y1,q1⟩:=zE hth 1 (by omega)
   obtain ⟨u2,y2,q2⟩:=zE hth 2 (by omega)
   obtain ⟨u3,y3,q3⟩:=zE hth 3 (by omega)
   obtain ⟨u4,y4,q4⟩:=zE hth 4 (by omega)
   obtain ⟨u5,y5,q5⟩:=zE hth 5 (by omega)
   obtain ⟨u6,y6,q6⟩:=zE hth 6 (by omega)
   obtain ⟨u7,y7,q7⟩:=zE hth 7 (by omega)
   obtain ⟨u8,y8,q8⟩:=zE hth 8 (by omega)
   simp only [Nat.zero_add] at y0 q0 y1 q1 y2 q2 y3 q3 y4 q4 y5 q5 y6 q6 y7 q7 y8 q8
   clear hall hD hbel ho6 hth hbx
   rw [if_pos (by rfl)]
   unfold Oper.wp
   go_simp
   refine ⟨upd f 8 undef,by simp [upd,g6,g7],rgx_last (zm mb hmb [.int .i64 next,.slice a4 l.length c4,.int .i64 next,.int .i64 s,.int .i64 (tk pr),.int .i64 qt,.int .i64 li,.string tg,.slice none 0 0] 0 V (za HBV)) (za HD) hxi (fun j hj hxj h=>dm_last j hj h (fun hj7=>?_)) trivial⟩
   subst hj7
   refine ⟨mb,g7,hmb,fun h=>absurd trivial h,fun _=>⟨a4,c4,?_⟩⟩
   exact matS_made (c:=⟨kk,s,ty,li,qt,ii,pr,tg⟩) (za HTH) (za HBX) (za HO6) (by have:=(za HBV).size; omega)
  | i + 9,ho=>simp at ho
end Go.Proofs.YtopjoogdpjaocaaGreat
