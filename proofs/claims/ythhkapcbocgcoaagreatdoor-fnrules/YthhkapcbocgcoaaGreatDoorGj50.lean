/-
  The law of the rules, walked.
-/
import Derived.Test.YthhkapcbocgcoaaGreatDoorGj49
set_option linter.unusedVariables false
set_option maxHeartbeats 6400000
set_option maxRecDepth 100000
namespace Go.Proofs.YthhkapcbocgcoaaGreatDoor
open Go.RowKit
theorem row_capG {W:World} {B e z n c:Nat} {a:Option Addr} {xs:List Value} (h:W.ownsRow B e z (.slice a n c) n xs):n ≤ c:=by
 rcases h.2 with ⟨Q,D⟩ | ⟨g,cap,xz,Q,_,_,D,_⟩
 ·omega
 ·simp only [Value.slice.injEq] at Q; omega
theorem below_drewN {B:Nat} {a w:World} (h:Below B a w) (n:Nat):Below B a (w.drewN n):=⟨h.os,h.tape,h.output,h.size,h.block⟩
theorem gov_b1 {V w2 w4:World} {o:Obj} (D:Below V.heap.size V w2) (h4:Below w2.drew.heap.size w2.drew w4):Below V.heap.size V (w4.alloc o):=by
 have h24:=D.drew.trans (h4.mono D.drew.size)
 exact h24.alloc h24.size o
theorem gov_b2 {V w2 w4:World} {o:Obj} (D:Below V.heap.size V w2) (h4:Below (w2.alloc o).drew.heap.size (w2.alloc o).drew w4) (vs:List Value):Below V.heap.size V (w4.setCells w2.heap.size 0 vs):=by
 have hA:=(D.alloc D.size o).drew
 exact zj w2.heap.size D.size vs 0 w4 (hA.trans (h4.mono hA.size))
set_option maxRecDepth 100000 in
set_option maxHeartbeats 6400000 in
theorem govLaw (v:Value) (l:List Int) (w:World) (hr:Rd w v l) (A:Bts l) (hl:l.length ≤ 1048576) (hE:ErrT w) :
  Calls Tryz.prog 3 #[v] w fun e w'=>e = .returned (.bool true)∧Below w.heap.size w w':=by
 have HR:=hide hr
 have HBT:=hide A
 have HEW:=hide hE
 obtain ⟨a,cap,rfl,-,-⟩:=hr
 clear A hE
 have hl':¬ ((1048576:Int) < l.length):=by omega
 go_enter Tryz.func3,Tryz.ntmps3
 go_wp2_with fail
 refine (scriptOf_ex _ l w (U HR) (U HBT)).mono ?_
 rintro e w1 ⟨o,cs,rfl,hcq,xS,ub⟩
 obtain ⟨ao,co,rfl⟩:=own_sliceD xS
 have hn:cs.length ≤ 27:=by rw [csEq_len hcq]; exact (scS_ok l _).2
 have vR:∀ c ∈ cs,DrOk c:=csEq_ok hcq (scS_ok l _).1
 have HFT:Hid (∀ c ∈ cs,CmFit c):=csEq_fit hcq (scD_fit l)
 have HC8:Hid (RdR Cm.vs 8 w1 (.slice ao cs.length co) cs):=ownR_rd (eu Cm.len (by omega) xS)
 have ky:Hid (∀ c ∈ cs,c.g.size ≤ maxLen):=fun c hc=>yO (vR c hc).1 (by unfold maxLen; omega)
 have xU:=hide ub
 have oM:=hide (zW (U HEW) ub (Nat.le_refl _))
 have pC:=hide (okB_run cs (fun c hc=>(vR c hc).2))
 clear vR xS ub HR HBT hcq HEW
 have qI:Hid (Below w1.heap.size w1 (w1.alloc (Obj.cells #[.int .i64 1,.slice none 0 0] 27))):=(Below.refl _ _).alloc (Nat.le_refl _) _
 have HX9:=hide (zy w1 [.int .i64 1,.slice none 0 0] 27)
 go_wp2_with fail
 generalize (w1.alloc (Obj.cells #[.int .i64 1,.slice none 0 0] 27)) = W9 at qI HX9 ⊢
 generalize Value.agg #[.int .i64 1,.slice none 0 0] = dH
 go_loopw [5] (fun i wr=>∃ (k:Nat) (vq:Value),k ≤ cs.length∧k ≤ 12∧i = .int .i64 k∧Hid (Bx wr w1.heap.size [.int .i64 (runS (cs.take k)).n,vq])∧Hid (RdR Od.vs 6 wr vq (runS (cs.take k)).l)∧SlOk vq∧Below w1.heap.size w1 wr) (fun i _=>cs.length - (intOf i).toNat)
 case atStart=>exact ⟨0,.slice none 0 0,Nat.zero_le _,Nat.zero_le _,rfl,U HX9,⟨none,0,rfl,by simp [runS],by simp [runS]⟩,.inl rfl,U qI⟩
 case round =>
  obtain ⟨k,vq,E,hk12,rfl,qG,hrv,hsl,hbl⟩:=hrel
  have HBL:=hide hbl
  have qn:=hide hsl
  obtain ⟨av,cv,rfl,-⟩:=id (U hrv)
  have xR:=zb (U qG) 0 rfl
  have ub:=zb (U qG) 1 rfl
  have hsb:w1.heap.size < wr.heap.size:=yL wr _ xR
  clear hbl hsl
  by_cases xM:k < cs.length
  ·by_cases vX:k < 12
   ·obtain ⟨c,hc⟩:∃ c,cs[k]? = some c:=⟨_,yI xM⟩
    have pP:(k:Int) < cs.length:=by omega
    have hkt:(k:Int) < 12:=by omega
    have un:=U pC k (by omega)
    have vd:=run_step cs hc
    have hok2:=U pC (k + 1) (by omega)
    have kC:=U ky c (yP hc)
    have hft:=U HFT c (yP hc)
    obtain ⟨lb,lo,rfl,hlb,vB⟩:∃ lb lo,ao = some ⟨lb,lo,none⟩∧lb < w1.heap.size∧w1.rangeAt lb (lo + k * 8) c.vs:=by
     obtain ⟨a1,c1,e1,-,Q⟩:=U HC8
     simp only [Value.slice.injEq,true_and] at e1
     obtain ⟨b,off,D,og,X⟩:=Q (by intro h; rw [h] at hc; simp at hc)
     exact ⟨b,off,e1.1.trans D,og,X k c hc⟩
    rw [vd] at hok2
    generalize runS (cs.take k) = s at qG hrv un vd hok2 xR ub qn
    have HSQ:Hid (∀ W,RdR Od.vs 6 W (.slice av s.l.length cv) s.l→Calls Tryz.prog 6 #[.agg #[.int .i64 s.n,.slice av s.l.length cv],.agg #[.int .i64 c.k,.int .i64 c.s,.int .i64 c.t,.int .i64 c.l,.int .i64 c.q,.int .i64 c.i,.float .f64 c.p,.string c.g]] W fun e w'=>∃ vq vg,e = .returned (.tuple #[.agg #[.int .i64 (stN s.n s.l c),vq],vg,.int .i64 0])∧ORow w' W.heap.size vq (stL s.n s.l c)∧ERow w' W.heap.size vg (stE s.n s.l c)∧Below W.heap.size W w'):=fun W hW=>by
     have h:=specStepBook_any s.n (.slice av s.l.length cv) s.l c W hW (U qn) (okB_tags un) kC
     rw [spN,spL,spE,reaC,if_pos (okB_ok un),if_pos (okB_ok un),if_pos (okB_ok un),if_pos (okB_ok un)] at h
     exact h
    have HGV:=hide (gov_all (c:=c) un)
    have HFE:=hide (stE_fit un hft)
    have HEL:=hide (stE_lenF (next:=s.n) (c:=c) (fI un))
    have az:=hide un
    have HOK2:Hid (OkB (stN s.n s.l c) (stL s.n s.l c)):=hok2
    have kN:Hid (runS (cs.take (k + 1)) = ⟨stN s.n s.l c,stL s.n s.l c,_,_⟩):=vd
    clear un hok2 vd kC hc hft
    generalize stN s.n s.l c = N at HSQ HOK2 kN HGV
    generalize stL s.n s.l c = L at HSQ HOK2 kN HGV
    generalize stE s.n s.l c = hk at HSQ HGV kN HFE HEL
    have HLC:=hide vB
    clear vB
    have hEl:hk.length ≤ 100:=U HEL
    go_wp2_with fail
    clear xR ub
    have HREG:Hid (∀ V,Below wr.heap.size wr V→V.cell? ⟨w1.heap.size,0,none⟩ = some (.int .i64 s.n)∧V.cell? ⟨w1.heap.size,1,none⟩ = some (.slice av s.l.length cv)∧V.cell? ⟨lb,lo + k * 8,none⟩ = some (.int .i64 c.k)∧V.cell? ⟨lb,lo + k * 8 + 1,none⟩ = some (.int .i64 c.s)∧V.cell? ⟨lb,lo + k * 8 + 2,none⟩ = some (.int .i64 c.t)∧V.cell? ⟨lb,lo + k * 8 + 3,none⟩ = some (.int .i64 c.l)∧V.cell? ⟨lb,lo + k * 8 + 4,none⟩ = some (.int .i64 c.q)∧V.cell? ⟨lb,lo + k * 8 + 5,none⟩ = some (.int .i64 c.i)∧V.cell? ⟨lb,lo + k * 8 + 6,none⟩ = some (.float .f64 c.p)∧V.cell? ⟨lb,lo + k * 8 + 7,none⟩ = some (.string c.g)∧RdR Od.vs 6 V (.slice av s.l.length cv) s.l):=fun V hV=>by
     have A:=zl (U qG) hV hsb
     obtain ⟨l0,l1,l2,l3,l4,l5,l6,l7⟩:=cm_cells (zc (U HLC) ((U HBL).trans (hV.mono (U HBL).size)) hlb)
     exact ⟨zb A 0 rfl,zb A 1 rfl,l0,l1,l2,l3,l4,l5,l6,l7,zh (U hrv) hV (Nat.le_refl _)⟩
    refine zn (RG wr (fun f=>{ tmps:=#[.slice a l.length cap,undef,u2,.slice (some ⟨lb,lo,none⟩) cs.length co,.pointer (some ⟨w1.heap.size,0,none⟩),.int .i64 k,f 10,f 12,f 13,u9,u10,u11,u12,u13,u14,u15,u16,u17,u18,u19,u20,.slice a l.length cap,.int .i64 l.length,.bool false,.slice a l.length cap,.slice (some ⟨lb,lo,none⟩) cs.length co,dH,.int .i64 k,.slice (some ⟨lb,lo,none⟩) cs.length co,.int .i64 cs.length,.bool true,.bool true,.int .i64 k,.bool true,.bool true,u35,u36,f 6,f 0,f 1,f 2,f 3,f 4,f 5,f 7,f 8,f 9,u47,u48,u49,u50,u51,u52,u53,u54,u55,u56,u57,u58,u59,u60,u61,u62,u63,u64,u65,u66,u67,u68,u69,u70,u71,u72,u73,u74,u75,u76,u77,u78,u79,u80,u81,u82,u83,u84,u85,u86,u87,u88,u89,u90,u91,u92,u93,u94,u95,u96,u97,u98,u99,u100,u101,u102,u103,u104,u105,u106,u107,u108,u109,u110,u111,u112,u113,u114,u115,u116,u117,u118,u119,u120,u121,u122,u123,u124,u125,u126,u127,u128,u129,u130,u131,u132,u133,u134,u135,u136,u137,u138,u139,u140,u141,u142,u143,u144,u145,u146,u147,u148,u149,u150,u151,u152,u153,u154,u155,u156,u157,u158,u159,u160,u161,u162,u163,u164,u165,u166,u167,u168,u169,u170,u171],defers:=[] }) 11 (DL [.agg #[.int .i64 s.n,.slice av s.l.length cv],.slice (some ⟨lb,lo,none⟩) cs.length co,.int .i64 k,.pointer (some ⟨lb,lo + k * 8,none⟩),.agg #[.int .i64 c.k,.int .i64 c.s,.int .i64 c.t,.int .i64 c.l,.int .i64 c.q,.int .i64 c.i,.float .f64 c.p,.string c.g],undef,undef,undef,undef,.int .i64 0,undef,undef,undef,.int .i64 0] [(5,2),(6,2),(7,3),(8,4),(10,5),(11,9),(12,4)] wr.heap.size s.n N 0 s.l L hk)) (by kernel_rfl) ?_ ?_ ?_
    ·exact ⟨fun j=>if j = 0 then u38 else if j = 1 then u39 else if j = 2 then u40 else if j = 3 then u41 else if j = 4 then u42 else if j = 5 then u43 else if j = 6 then u37 else if j = 7 then u44 else if j = 8 then u45 else if j = 9 then u46 else if j = 10 then u6 else if j = 12 then u7 else if j = 13 then u8 else undef,rfl,⟨rfl,rfl,rfl,Nat.le_refl _,fun _ _=>rfl⟩,fun j hj=>by rw [yJ] at hj; split at hj <;> simp at hj⟩
    rotate_left
    ·rintro x hb V i op ⟨f,rfl,xi,hD⟩ xo hx Y xu K
     have xw:=hide xi
     have HD:=hide hD
     obtain ⟨b0,b1,l0,l1,l2,l3,l4,l5,l6,l7,hrv'⟩:=U HREG V xi
     have HRV:=hide hrv'
     clear hrv'
     match i,Y with
     | 0,Y =>
      obtain rfl:=Option.some.inj Y
      clear K hD xi xo
      rw [if_pos (by rfl)]
      unfold Oper.wp
      go_simp
      exact ⟨upd f 0 (.agg #[.int .i64 s.n,.slice av s.l.length cv]),by simp [upd],zf (U xw) (U HD) (by decide) (dl_mkv rfl rfl)⟩
     | 1,Y =>
      obtain rfl:=Option.some.inj Y
      clear K hD xi xo
      rw [if_pos (by rfl)]
      unfold Oper.wp
      go_simp
      exact ⟨upd f 1 (.slice (some ⟨lb,lo,none⟩) cs.length co),by simp [upd],zf (U xw) (U HD) (by decide) (dl_mkv rfl rfl)⟩
     | 2,Y =>
      obtain rfl:=Option.some.inj Y
      clear K hD xi xo
      rw [if_pos (by rfl)]
      unfold Oper.wp
      go_simp
      exact ⟨upd f 2 (.int .i64 k),by simp [upd],zf (U xw) (U HD) (by decide) (dl_mkv rfl rfl)⟩
     | 3,Y =>
      obtain rfl:=Option.some.inj Y
      have g1:f 1 = .slice (some ⟨lb,lo,none⟩) cs.length co:=dl_val (hD 1 (K ⟨1,.data⟩ (by simp) rfl)) rfl rfl
      have g2:f 2 = .int .i64 k:=dl_val (hD 2 (K ⟨2,.data⟩ (by simp) rfl)) rfl rfl
      clear K hD xi xo
      rw [if_pos (by rfl)]
      unfold Oper.wp
      go_simp
      exact ⟨upd f 3 (.pointer (some ⟨lb,lo + k * 8,none⟩)),by simp [upd,g1,g2],zf (U xw) (U HD) (by decide) (dl_mkv rfl rfl)⟩
     | 4,Y =>
      obtain rfl:=Option.some.inj Y
      have g3:f 3 = .pointer (some ⟨lb,lo + k * 8,none⟩):=dl_val (hD 3 (K ⟨3,.data⟩ (by simp) rfl)) rfl rfl
      clear K hD xi xo
      rw [if_pos (by rfl)]
      unfold Oper.wp
      go_simp
      exact ⟨upd f 4 (.agg #[.int .i64 c.k,.int .i64 c.s,.int .i64 c.t,.int .i64 c.l,.int .i64 c.q,.int .i64 c.i,.float .f64 c.p,.string c.g]),by simp [upd,g3],zf (U xw) (U HD) (by decide) (dl_mkv rfl rfl)⟩
     | 5,Y =>
      obtain rfl:=Option.some.inj Y
      have g0:f 0 = .agg #[.int .i64 s.n,.slice av s.l.length cv]:=dl_val (hD 0 (K ⟨0,.data⟩ (by simp) rfl)) rfl rfl
      have g4:f 4 = .agg #[.int .i64 c.k,.int .i64 c.s,.int .i64 c.t,.int .i64 c.l,.int .i64 c.q,.int .i64 c.i,.float .f64 c.p,.string c.g]:=dl_val (hD 4 (K ⟨4,.data⟩ (by simp) rfl)) rfl rfl
      have hS:=xi.size
      clear K hD xi xo
      rw [if_pos (by rfl)]
      unfold Oper.wp
      go_simp
      refine (U HSQ V (U HRV)).mono ?_
      rintro e w4 ⟨vq,vg,rfl,pv,he4,xy⟩
      obtain ⟨jz,jA,rfl⟩:=cT pv
      obtain ⟨jT,qp,rfl⟩:=cT he4
      exact ⟨upd f 5 (.tuple #[.agg #[.int .i64 N,.slice jz L.length jA],.slice jT hk.length qp,.int .i64 0]),by simp [upd,g0,g4],rg_grow dl_grow (U xw) (U HD) xy (by decide) (dl_mk2 rfl ⟨jz,jA,jT,qp,rfl,zR pv hS,zR he4 hS⟩)⟩
     | 6,Y =>
      obtain rfl:=Option.some.inj Y
      obtain ⟨jz,jA,jT,qp,g,D,X⟩:=dl_2 (hD 5 (K ⟨5,.data⟩ (by simp) rfl)) rfl
      have H2:=hide D
      have H3:=hide X
      clear D X
      clear K hD xi xo
      rw [if_pos (by rfl)]
      unfold Oper.wp
      go_simp
      exact ⟨upd f 6 (.tuple #[.agg #[.int .i64 N,.slice jz L.length jA],.slice jT hk.length qp,.int .i64 0]),by simp [upd,g],zf (U xw) (U HD) (by decide) (dl_mk2 rfl ⟨jz,jA,jT,qp,rfl,U H2,U H3⟩)⟩
     | 7,Y =>
      obtain rfl:=Option.some.inj Y
      obtain ⟨jz,jA,jT,qp,g,D,X⟩:=dl_2 (hD 6 (K ⟨6,.data⟩ (by simp) rfl)) rfl
      have H2:=hide D
      have H3:=hide X
      clear D X
      clear K hD xi xo
      rw [if_pos (by rfl)]
      unfold Oper.wp
      go_simp
      exact ⟨upd f 7 (.agg #[.int .i64 N,.slice jz L.length jA]),by simp [upd,g],zf (U xw) (U HD) (by decide) (dl_mk3 rfl ⟨jz,jA,rfl,U H2⟩)⟩
     | 8,Y =>
      obtain rfl:=Option.some.inj Y
      obtain ⟨jz,jA,jT,qp,g,D,X⟩:=dl_2 (hD 6 (K ⟨6,.data⟩ (by simp) rfl)) rfl
      have H2:=hide D
      have H3:=hide X
      clear D X
      clear K hD xi xo
      rw [if_pos (by rfl)]
      unfold Oper.wp
      go_simp
      exact ⟨upd f 8 (.slice jT hk.length qp),by simp [upd,g],zf (U xw) (U HD) (by decide) (dl_mk4 rfl ⟨jT,qp,rfl,U H3⟩)⟩
     | 9,Y =>
      obtain rfl:=Option.some.inj Y
      obtain ⟨jz,jA,jT,qp,g,D,X⟩:=dl_2 (hD 6 (K ⟨6,.data⟩ (by simp) rfl)) rfl
      have H2:=hide D
      have H3:=hide X
      clear D X
      clear K hD xi xo
      rw [if_pos (by rfl)]
      unfold Oper.wp
      go_simp
      exact ⟨upd f 9 (.int .i64 0),by simp [upd,g],zf (U xw) (U HD) (by decide) (dl_mkv rfl rfl)⟩
     | 10,Y =>
      obtain rfl:=Option.some.inj Y
      have hp:¬ x[11]? = some true:=by rw [ch xo 13 10 11 (by kernel_rfl) hx (by simp) xu]; simp
      have hS:=xi.size
      clear K hD xi xo
      rw [if_pos (by rfl)]
      unfold Oper.wp
      go_simp
      exact ⟨upd f 10 (.pointer (some ⟨V.heap.size,0,none⟩)),by simp [upd],rg_grow dl_grow (U xw) (U HD) ((Below.refl _ _).alloc (Nat.le_refl _) _) (by decide) (dl_mk5 rfl hp hS)⟩
     | 11,Y =>
      obtain rfl:=Option.some.inj Y
      obtain ⟨jz,jA,g7,ho6⟩:=dl_3 (hD 7 (K ⟨7,.data⟩ (by simp) rfl)) rfl
      obtain ⟨b,qL,hSb,hltb,xV,hbx2,-⟩:=dl_5 (hD 10 (K ⟨10,.data⟩ (by simp) rfl)) rfl
      have vH:Hid (∀ j,j ≠ 11→x[j]? = some true→DL [.agg #[.int .i64 s.n,.slice av s.l.length cv],.slice (some ⟨lb,lo,none⟩) cs.length co,.int .i64 k,.pointer (some ⟨lb,lo + k * 8,none⟩),.agg #[.int .i64 c.k,.int .i64 c.s,.int .i64 c.t,.int .i64 c.l,.int .i64 c.q,.int .i64 c.i,.float .f64 c.p,.string c.g],undef,undef,undef,undef,.int .i64 0,undef,undef,undef,.int .i64 0] [(5,2),(6,2),(7,3),(8,4),(10,5),(11,9),(12,4)] wr.heap.size s.n N 0 s.l L hk False V j (f j)→DL [.agg #[.int .i64 s.n,.slice av s.l.length cv],.slice (some ⟨lb,lo,none⟩) cs.length co,.int .i64 k,.pointer (some ⟨lb,lo + k * 8,none⟩),.agg #[.int .i64 c.k,.int .i64 c.s,.int .i64 c.t,.int .i64 c.l,.int .i64 c.q,.int .i64 c.i,.float .f64 c.p,.string c.g],undef,undef,undef,undef,.int .i64 0,undef,undef,undef,.int .i64 0] [(5,2),(6,2),(7,3),(8,4),(10,5),(11,9),(12,4)] wr.heap.size s.n N 0 s.l L hk True (V.setCells b 0 [.int .i64 N,.slice jz L.length jA]) j (f j)):=fun j hj hxj h=>dl_store hSb xV hltb hbx2 ho6 (fun h5=>by
       have:=look_only h5 (i:=10) (by decide)
       rw [this]; exact qL) h
      have uI:=hide (zj b hSb [.int .i64 N,.slice jz L.length jA] 0 _ xi)
      obtain ⟨p0,x0,f0⟩:=zg xV (j:=0) (by omega)
      obtain ⟨p1,x1,f1⟩:=zg xV (j:=1) (by omega)
      clear K hD xi xo xV hbx2 ho6
      rw [if_pos (by rfl)]
      unfold Oper.wp
      go_simp
      exact ⟨f,by simp [g7,qL],rg_write2 (U uI) (U HD) xu (U vH) (dl_mk9 rfl)⟩
     | 12,Y =>
      obtain rfl:=Option.some.inj Y
      obtain ⟨jT,qp,g,X⟩:=dl_4 (hD 8 (K ⟨8,.data⟩ (by simp) rfl)) rfl
      have H3:=hide X
      clear X
      clear K hD xi xo
      rw [if_pos (by rfl)]
      unfold Oper.wp
      go_simp
      exact ⟨upd f 12 (.slice jT hk.length qp),by simp [upd,g],zf (U xw) (U HD) (by decide) (dl_mk4 rfl ⟨jT,qp,rfl,U H3⟩)⟩
     | 13,Y =>
      obtain rfl:=Option.some.inj Y
      have g9:f 9 = .int .i64 0:=dl_val (hD 9 (K ⟨9,.data⟩ (by simp) rfl)) rfl rfl
      clear K hD xi xo
      rw [if_pos (by rfl)]
      unfold Oper.wp
      go_simp
      exact ⟨upd f 13 (.int .i64 0),by simp [upd,g9],zf (U xw) (U HD) (by decide) (dl_mkv rfl rfl)⟩
     | n + 14,Y=>simp at Y
    ·rintro x hb V ⟨f,rfl,xi,hD⟩ hx xN
     have xp:=zY xN hx (by kernel_rfl)
     obtain ⟨jT,qp,qj,hge3⟩:=dl_4 (hD 12 (xp 12 (by simp))) rfl
     have qk:f 13 = .int .i64 0:=dl_val (hD 13 (xp 13 (by simp))) rfl rfl
     obtain ⟨bn,vy,hSn,hltn,hthn,-,hstn⟩:=dl_5 (hD 10 (xp 10 (by simp))) rfl
     obtain ⟨jz,jA,hran,hron⟩:=hstn (xp 11 (by simp))
     simp only [qj,qk,vy]
     have HVW1:Hid (Below w1.heap.size w1 V):=(U HBL).trans (xi.mono (U HBL).size)
     have HBN1:Hid (Bx V bn [.int .i64 N,.slice jz L.length jA]):=⟨hran,hthn⟩
     have pZ:=hide (zl (U qG) xi hsb)
     have HRB1:=hide (zh (U hrv) xi (Nat.le_refl _))
     have HRN1:Hid (RdR Od.vs 6 V (.slice jz L.length jA) L):=ownR_rd (eu Od.len (by have:=(U HOK2).len; omega) hron)
     have hsn:SlOk (.slice jz L.length jA):=oRow_sl hron
     have HNB:Hid (∀ g,(Value.slice jz L.length jA).ownBlock = some g→w1.heap.size < g):=fun g hg=>by have:=(hron.lt g hg).1; have:=hsb; omega
     have HRE1:Hid (RdR Ev.vs 14 V (.slice jT hk.length qp) hk):=ownR_rd (eu Ev.len (by omega) hge3)
     have HNE:Hid (∀ g,(Value.slice jT hk.length qp).ownBlock = some g→w1.heap.size < g):=fun g hg=>by have:=(hge3.lt g hg).1; have:=hsb; omega
     have hbn1:w1.heap.size < bn∧bn < V.heap.size:=⟨by have:=hsb; omega,hltn⟩
     have S1:w1.heap.size < V.heap.size:=yK hsb xi.size
     have HKP1:Hid (Below wr.heap.size wr V):=xi
     have hcp:hk.length ≤ qp:=row_capG hge3
     clear hD xp xN hx hran hthn hstn hron hge3 vy qj qk xi hSn hltn HREG
     generalize f 0 = tq0,f 1 = tq1,f 2 = tq2,f 3 = tq3,f 4 = tq4,f 5 = tq5,f 6 = tq6,f 7 = tq7,f 8 = tq8,f 9 = tq9
     clear HKP1
     generalize jr:V = V1 at *
     clear jr hrv qG
     have jo:=hide (zW (U oM) (U HVW1) (Nat.le_refl _))
     have HBK:Hid (∀ W,Below V1.heap.size V1 W→∀ (j:Nat) (x:Ev),hk[j]? = some x→Calls Tryz.prog 7 #[.agg #[.int .i64 s.n,.slice av s.l.length cv],.slice jT j qp,.agg #[.int .i64 x.kind,.int .i64 x.cmd.k,.int .i64 x.cmd.s,.int .i64 x.cmd.t,.int .i64 x.cmd.l,.int .i64 x.cmd.q,.int .i64 x.cmd.i,.float .f64 x.cmd.p,.string x.cmd.g,.int .i64 x.id,.int .i64 x.other,.int .i64 x.qty,.int .i64 x.price,.int .i64 x.reason]] W fun e w'=>e = .returned (.tuple #[.int .i64 0,.int .i64 0])∧Below W.heap.size W w'):=fun W hW j x hx=>by
      have xM:=(yH.1 hx).1
      obtain ⟨Q,D,-,-⟩:=gov_at (U HGV) (U az) hEl hx
      have h:=implBroken_any s.n (.slice av s.l.length cv) s.l (.slice jT j qp) (hk.take j) x W (zh (U HRB1) hW (Nat.le_refl _)) (U qn) (okB_tags (U az)) (rdR_take (zh (U HRE1) hW (Nat.le_refl _)) (by omega)) (fun e he=>U HFE e (List.mem_of_mem_take he)) (U HFE x (yP hx)) (zW (U jo) hW (Nat.le_refl _))
      rw [Q,D] at h
      exact h
     have kJ:Hid (∀ W,Below V1.heap.size V1 W→∀ (j:Nat),j ≤ hk.length→Calls Tryz.prog 8 #[.agg #[.int .i64 s.n,.slice av s.l.length cv],.slice jT j qp] W fun e w'=>e = .returned (.tuple #[.agg #[.int .i64 (duD s.n s.l (hk.take j)).kind,.int .i64 (duD s.n s.l (hk.take j)).id,.int .i64 (duD s.n s.l (hk.take j)).other,.int .i64 (duD s.n s.l (hk.take j)).qty,.int .i64 (duD s.n s.l (hk.take j)).price],.int .i64 (duU s.n s.l (hk.take j)),.int .i64 (duC s.n s.l (hk.take j))])∧Below W.heap.size W w'):=fun W hW j hj =>
      implDueOf_any s.n (.slice av s.l.length cv) s.l (.slice jT j qp) (hk.take j) W (zh (U HRB1) hW (Nat.le_refl _)) (U qn) (okB_tags (U az)) (rdR_take (zh (U HRE1) hW (Nat.le_refl _)) hj) (fun e he=>U HFE e (List.mem_of_mem_take he)) (zW (U jo) hW (Nat.le_refl _))
     have HAP:Hid (∀ W,Below V1.heap.size V1 W→Calls Tryz.prog 9 #[.agg #[.int .i64 s.n,.slice av s.l.length cv],.slice jT hk.length qp] W fun e w'=>ApE W N L 0 0 e w'):=fun W hW=>by
      obtain ⟨-,-,Q,D,X,h4⟩:=gov_end (U HGV) (U az) hEl
      have h:=implApply_any s.n (.slice av s.l.length cv) s.l (.slice jT hk.length qp) hk W (zh (U HRB1) hW (Nat.le_refl _)) (U qn) (okB_tags (U az)) (zh (U HRE1) hW (Nat.le_refl _)) (U HFE) (zW (U jo) hW (Nat.le_refl _))
      rw [Q,D,X,h4] at h
      exact h
     go_wp2_with fail
     go_loopw [9] (fun jv wq=>∃ j:Nat,j ≤ hk.length∧jv = .int .i64 j∧Below V1.heap.size V1 wq) (fun jv _=>hk.length - (intOf jv).toNat)
     case atStart=>exact ⟨0,Nat.zero_le _,rfl,Below.refl _ _⟩
     case round =>
      obtain ⟨j,hj,rfl,oD⟩:=hrel
      have xI:=hide oD
      have b0:wr.cell? ⟨w1.heap.size,0,none⟩ = some (.int .i64 s.n):=zb (zl (U pZ) oD S1) 0 rfl
      have b1:wr.cell? ⟨w1.heap.size,1,none⟩ = some (.slice av s.l.length cv):=zb (zl (U pZ) oD S1) 1 rfl
      clear oD
      by_cases hjl:j < hk.length
      ·obtain ⟨x,hx⟩:∃ x,hk[j]? = some x:=⟨_,yI hjl⟩
       have hjl':(j:Int) < hk.length:=by omega
       have hjc:(j:Int) ≤ qp:=by omega
       obtain ⟨eb,eo,rfl,heb,oL⟩:∃ eb eo,jT = some ⟨eb,eo,none⟩∧eb < V1.heap.size∧V1.rangeAt eb (eo + j * 14) x.vs:=by
        obtain ⟨a1,c1,e1,-,Q⟩:=U HRE1
        simp only [Value.slice.injEq,true_and] at e1
        obtain ⟨b,off,D,og,X⟩:=Q (by intro h; rw [h] at hx; simp at hx)
        exact ⟨b,off,e1.1.trans D,og,X j x hx⟩
       have uB:=hide oL
       obtain ⟨g0,g1,g2,g3,g4,g5,g6,g7,g8,g9,qL,ql,ud,kB⟩:=ev_cells (zc oL (U xI) heb)
       have HX:=hide hx
       have bw:=hide (gov_at (U HGV) (U az) hEl hx)
       clear oL hx
       go_wp2_with fail
       rename_i K12 hK12
       have HK12:=hide hK12
       clear hK12
       have HT12:Hid (∀ w2,Below V1.heap.size V1 w2→K12 { tmps:=#[.slice a l.length cap,undef,u2,.slice (some ⟨lb,lo,none⟩) cs.length co,.pointer (some ⟨w1.heap.size,0,none⟩),.int .i64 k,.pointer (some ⟨bn,0,none⟩),.slice (some ⟨eb,eo,none⟩) hk.length qp,.int .i64 0,.int .i64 j,.int .i64 0,.int .i64 0,u12,u13,u14,u15,u16,u17,u18,u19,u20,.slice a l.length cap,.int .i64 l.length,.bool false,.slice a l.length cap,.slice (some ⟨lb,lo,none⟩) cs.length co,dH,.int .i64 k,.slice (some ⟨lb,lo,none⟩) cs.length co,.int .i64 cs.length,.bool true,.bool true,.int .i64 k,.bool true,.bool true,u35,u36,tq6,tq0,tq1,tq2,tq3,tq4,tq5,tq7,tq8,tq9,.int .i64 j,.slice (some ⟨eb,eo,none⟩) hk.length qp,.int .i64 hk.length,.bool true,u51,u52,.tuple #[.int .i64 0,.int .i64 0],.agg #[.int .i64 s.n,.slice av s.l.length cv],.slice (some ⟨eb,eo,none⟩) hk.length qp,.int .i64 j,.slice (some ⟨eb,eo,none⟩) j qp,.slice (some ⟨eb,eo,none⟩) hk.length qp,.int .i64 j,.pointer (some ⟨eb,eo + j * 14,none⟩),.agg #[.int .i64 x.kind,.int .i64 x.cmd.k,.int .i64 x.cmd.s,.int .i64 x.cmd.t,.int .i64 x.cmd.l,.int .i64 x.cmd.q,.int .i64 x.cmd.i,.float .f64 x.cmd.p,.string x.cmd.g,.int .i64 x.id,.int .i64 x.other,.int .i64 x.qty,.int .i64 x.price,.int .i64 x.reason],.tuple #[.int .i64 0,.int .i64 0],.int .i64 0,.int .i64 0,u65,u66,u67,u68,u69,u70,u71,u72,u73,u74,u75,u76,u77,u78,u79,u80,u81,u82,u83,u84,u85,u86,u87,u88,u89,u90,u91,u92,u93,u94,u95,u96,u97,u98,u99,u100,u101,u102,u103,u104,u105,u106,u107,u108,u109,u110,u111,u112,u113,u114,u115,u116,u117,u118,u119,u120,u121,u122,u123,u124,u125,u126,u127,u128,u129,u130,u131,u132,u133,u134,u135,u136,u137,u138,u139,u140,u141,u142,u143,u144,u145,u146,u147,u148,u149,u150,u151,u152,u153,u154,u155,u156,u157,u158,u159,u160,u161,u162,u163,u164,u165,u166,u167,u168,u169,u170,u171],defers:=[] } w2):=by
        intro w2 hB2
        have xt:=hide hB2
        refine U HK12 _ _ ?_
        clear HK12 b0 b1 g0 g1 g2 g3 g4 g5 g6 g7 g8 g9 qL ql ud kB
        have b0:w2.cell? ⟨w1.heap.size,0,none⟩ = some (.int .i64 s.n):=zb (zl (U pZ) hB2 S1) 0 rfl
        have b1:w2.cell? ⟨w1.heap.size,1,none⟩ = some (.slice av s.l.length cv):=zb (zl (U pZ) hB2 S1) 1 rfl
        clear hB2
        go_wp2_with fail
        have HDJ:=hide (fun W hW=>U kJ W hW j hj)
        rw [(U bw).2.2.1] at HDJ
        generalize duD s.n s.l (hk.take j) = h2 at HDJ bw
        generalize duU s.n s.l (hk.take j) = dU at HDJ
        rename_i K15 hK15
        have HK15:=hide hK15
        clear hK15
        have HT15:Hid (∀ (b:Nat) (w5:World),Below V1.heap.size V1 w5→Bx w5 b [.int .i64 h2.kind,.int .i64 h2.id,.int .i64 h2.other,.int .i64 h2.qty,.int .i64 h2.price]→K15 { tmps:=#[.slice a l.length cap,undef,u2,.slice (some ⟨lb,lo,none⟩) cs.length co,.pointer (some ⟨w1.heap.size,0,none⟩),.int .i64 k,.pointer (some ⟨bn,0,none⟩),.slice (some ⟨eb,eo,none⟩) hk.length qp,.int .i64 0,.int .i64 j,.int .i64 0,.int .i64 0,.pointer (some ⟨b,0,none⟩),.int .i64 dU,.int .i64 0,u15,u16,u17,u18,u19,u20,.slice a l.length cap,.int .i64 l.length,.bool false,.slice a l.length cap,.slice (some ⟨lb,lo,none⟩) cs.length co,dH,.int .i64 k,.slice (some ⟨lb,lo,none⟩) cs.length co,.int .i64 cs.length,.bool true,.bool true,.int .i64 k,.bool true,.bool true,u35,u36,tq6,tq0,tq1,tq2,tq3,tq4,tq5,tq7,tq8,tq9,.int .i64 j,.slice (some ⟨eb,eo,none⟩) hk.length qp,.int .i64 hk.length,.bool true,u51,u52,.tuple #[.int .i64 0,.int .i64 0],.agg #[.int .i64 s.n,.slice av s.l.length cv],.slice (some ⟨eb,eo,none⟩) hk.length qp,.int .i64 j,.slice (some ⟨eb,eo,none⟩) j qp,.slice (some ⟨eb,eo,none⟩) hk.length qp,.int .i64 j,.pointer (some ⟨eb,eo + j * 14,none⟩),.agg #[.int .i64 x.kind,.int .i64 x.cmd.k,.int .i64 x.cmd.s,.int .i64 x.cmd.t,.int .i64 x.cmd.l,.int .i64 x.cmd.q,.int .i64 x.cmd.i,.float .f64 x.cmd.p,.string x.cmd.g,.int .i64 x.id,.int .i64 x.other,.int .i64 x.qty,.int .i64 x.price,.int .i64 x.reason],.tuple #[.int .i64 0,.int .i64 0],.int .i64 0,.int .i64 0,.int .i64 0,.bool false,.bool false,.int .i64 0,.bool false,.bool false,.tuple #[.agg #[.int .i64 h2.kind,.int .i64 h2.id,.int .i64 h2.other,.int .i64 h2.qty,.int .i64 h2.price],.int .i64 dU,.int .i64 0],.agg #[.int .i64 s.n,.slice av s.l.length cv],.slice (some ⟨eb,eo,none⟩) hk.length qp,.int .i64 j,.slice (some ⟨eb,eo,none⟩) j qp,.tuple #[.agg #[.int .i64 h2.kind,.int .i64 h2.id,.int .i64 h2.other,.int .i64 h2.qty,.int .i64 h2.price],.int .i64 dU,.int .i64 0],.agg #[.int .i64 h2.kind,.int .i64 h2.id,.int .i64 h2.other,.int .i64 h2.qty,.int .i64 h2.price],.int .i64 dU,.int .i64 0,u80,u81,u82,u83,u84,u85,u86,u87,u88,u89,u90,u91,u92,u93,u94,u95,u96,u97,u98,u99,u100,u101,u102,u103,u104,u105,u106,u107,u108,u109,u110,u111,u112,u113,u114,u115,u116,u117,u118,u119,u120,u121,u122,u123,u124,u125,u126,u127,u128,u129,u130,u131,u132,u133,u134,u135,u136,u137,u138,u139,u140,u141,u142,u143,u144,u145,u146,u147,u148,u149,u150,u151,u152,u153,u154,u155,u156,u157,u158,u159,u160,u161,u162,u163,u164,u165,u166,u167,u168,u169,u170,u171],defers:=[] } w5):=by
         intro b w5 hB5 hX5
         refine U HK15 _ _ ?_
         have uE:=hide hB5
         obtain ⟨g0,g1,g2,g3,g4,g5,g6,g7,g8,g9,qL,ql,ud,kB⟩:=ev_cells (zc (U uB) hB5 heb)
         have d0:=zb hX5 0 rfl
         have d1:=zb hX5 1 rfl
         have d2:=zb hX5 2 rfl
         have d3:=zb hX5 3 rfl
         have d4:=zb hX5 4 rfl
         have HDI:=hide (U bw).2.2.2
         clear hB5 hX5 HK15 b0 b1 bw g1 g2 g3 g4 g5 g6 g7 g8 kB
         generalize Value.tuple #[.agg #[.int .i64 h2.kind,.int .i64 h2.id,.int .i64 h2.other,.int .i64 h2.qty,.int .i64 h2.price],.int .i64 dU,.int .i64 0] = dT
         generalize Value.agg #[.int .i64 h2.kind,.int .i64 h2.id,.int .i64 h2.other,.int .i64 h2.qty,.int .i64 h2.price] = dV
         by_cases h0:j = 0
         ·subst h0
          clear HDI
          go_wp2_with fail
          go_quiet (fail)
          go_wp2_with fail
          try dsimp only [H,I,J,Z,yj,yk,yv,yw,yx,yp,yq,O]
          go_roundw
          case rel=>exact ⟨1,by omega,by go_num,below_drewN (U uE) _⟩
          case measure=>simp [intOf]; omega
         ·obtain ⟨e1,e2,e3,e4,e5⟩:=U HDI (by omega)
          rw [e1] at d0
          rw [e2] at d1
          rw [e3] at d2
          rw [e4] at d3
          rw [e5] at d4
          have jM:(0:Int) < j:=by omega
          have hj1:0 < j:=by omega
          clear e1 e2 e3 e4 e5 HDI
          go_wp2_with fail
          go_quiet (fail)
          go_wp2_with fail
          try dsimp only [H,I,J,Z,yj,yk,yv,yw,yx,yp,yq,O]
          go_roundw
          case rel=>exact ⟨j + 1,by omega,by go_num,below_drewN (U uE) _⟩
          case measure=>simp [intOf]; omega
        clear HK15
        have hBA:=(Below.refl w2.heap.size w2).alloc (Nat.le_refl _) (Obj.cells #[.int .i64 0,.int .i64 0,.int .i64 0,.int .i64 0,.int .i64 0] 39)
        have hl2:w1.heap.size < w2.heap.size:=yK S1 (U xt).size
        have a0:=(hBA.cell (p:=⟨w1.heap.size,0,none⟩) hl2).trans b0
        have a1:=(hBA.cell (p:=⟨w1.heap.size,1,none⟩) hl2).trans b1
        clear hBA
        go_region_with (go_at_call 8; refine (U HDJ _ (by first | exact (U xt).drew | exact ((U xt).alloc (U xt).size _).drew | exact (U xt).drew.alloc (U xt).size _)).mono ?_; rintro e w4 ⟨rfl,xy⟩; have xO:=hide xy; try (have HQ:=hide (zl (cf (zy w2 [.int .i64 0,.int .i64 0,.int .i64 0,.int .i64 0,.int .i64 0] 39)) xy (by simp)); have q0:=zb (U HQ) 0 rfl; have q1:=zb (U HQ) 1 rfl; have q2:=zb (U HQ) 2 rfl; have q3:=zb (U HQ) 3 rfl; have q4:=zb (U HQ) 4 rfl; have r0:=zd (U HQ) 0 (by show 0 < 5; omega); have r1:=zd (U HQ) 1 (by show 1 < 5; omega); have r2:=zd (U HQ) 2 (by show 2 < 5; omega); have r3:=zd (U HQ) 3 (by show 3 < 5; omega); have r4:=zd (U HQ) 4 (by show 4 < 5; omega)); clear xy)
        all_goals
         go_wp2_with fail
         first | exact U HT15 w4.heap.size _ (gov_b1 (U xt) (U xO)) (zy w4 [.int .i64 h2.kind,.int .i64 h2.id,.int .i64 h2.other,.int .i64 h2.qty,.int .i64 h2.price] 39) | exact U HT15 w2.heap.size (w4.setCells w2.heap.size 0 [.int .i64 h2.kind,.int .i64 h2.id,.int .i64 h2.other,.int .i64 h2.qty,.int .i64 h2.price]) (gov_b2 (U xt) (U xO) [.int .i64 h2.kind,.int .i64 h2.id,.int .i64 h2.other,.int .i64 h2.qty,.int .i64 h2.price]) (zB (U HQ) rfl)
       clear HK12
       go_region_with (go_at_call 7; refine (U HBK _ (U xI).drew j x (U HX)).mono ?_; rintro e w2 ⟨rfl,xP⟩; have xt:=hide ((U xI).drew.trans (xP.mono (U xI).drew.size)); clear xP)
       all_goals
        go_wp2_with fail
        exact U HT12 w2 (U xt)
      ·obtain rfl:j = hk.length:=by omega
       have hjl':¬ ((hk.length:Int) < hk.length):=by omega
       obtain ⟨hd1,hd2,-⟩:=gov_end (U HGV) (U az) hEl
       have HDE:Hid (∀ W,Below V1.heap.size V1 W→Calls Tryz.prog 8 #[.agg #[.int .i64 s.n,.slice av s.l.length cv],.slice jT hk.length qp] W fun e w'=>e = .returned (.tuple #[.agg #[.int .i64 0,.int .i64 (duD s.n s.l hk).id,.int .i64 (duD s.n s.l hk).other,.int .i64 (duD s.n s.l hk).qty,.int .i64 (duD s.n s.l hk).price],.int .i64 (duU s.n s.l hk),.int .i64 0])∧Below W.heap.size W w'):=fun W hW=>by
        have h:=U kJ W hW hk.length (Nat.le_refl _)
        rw [xa (Nat.le_refl _),hd1,hd2] at h
        exact h
       generalize (duD s.n s.l hk).id = d1 at HDE
       generalize (duD s.n s.l hk).other = d2 at HDE
       generalize (duD s.n s.l hk).qty = d3 at HDE
       generalize (duD s.n s.l hk).price = d4 at HDE
       generalize duU s.n s.l hk = d5 at HDE
       clear hd1 hd2 kJ HBK
       go_wp2_with fail
       refine (U HDE wr (U xI)).mono ?_
       rintro e w3 ⟨rfl,xQ⟩
       have jd:=(U xI).trans (xQ.mono (U xI).size)
       have xO:Hid (Below V1.heap.size V1 (w3.alloc (Obj.cells #[.int .i64 0,.int .i64 d1,.int .i64 d2,.int .i64 d3,.int .i64 d4] 39))):=jd.alloc jd.size _
       have xE:=hide (zy w3 [.int .i64 0,.int .i64 d1,.int .i64 d2,.int .i64 d3,.int .i64 d4] 39)
       have ka:w3.heap.size < (w3.alloc (Obj.cells #[.int .i64 0,.int .i64 d1,.int .i64 d2,.int .i64 d3,.int .i64 d4] 39)).heap.size:=by simp
       have hv3:V1.heap.size ≤ w3.heap.size:=jd.size
       clear b0 b1 xQ jd HDE
       have b0:(w3.alloc (Obj.cells #[.int .i64 0,.int .i64 d1,.int .i64 d2,.int .i64 d3,.int .i64 d4] 39)).cell? ⟨w1.heap.size,0,none⟩ = some (.int .i64 s.n):=zb (zl (U pZ) (U xO) S1) 0 rfl
       have b1:(w3.alloc (Obj.cells #[.int .i64 0,.int .i64 d1,.int .i64 d2,.int .i64 d3,.int .i64 d4] 39)).cell? ⟨w1.heap.size,1,none⟩ = some (.slice av s.l.length cv):=zb (zl (U pZ) (U xO) S1) 1 rfl
       go_wp2_with fail
       generalize (w3.alloc (Obj.cells #[.int .i64 0,.int .i64 d1,.int .i64 d2,.int .i64 d3,.int .i64 d4] 39)) = W4 at xO xE ka b0 b1 ⊢
       refine (U HAP W4 (U xO)).mono ?_
       intro e w5 hape
       obtain ⟨vl,rfl,jX,uj⟩:=hape
       obtain ⟨al,cl,rfl⟩:=cT jX
       have vT:=(U xO).trans (uj.mono (U xO).size)
       have vV:Hid (Below V1.heap.size V1 (w5.alloc (Obj.cells #[.int .i64 N,.slice al L.length cl] 27))):=vT.alloc vT.size _
       have hal:Below w5.heap.size w5 (w5.alloc (Obj.cells #[.int .i64 N,.slice al L.length cl] 27)):=(Below.refl _ _).alloc (Nat.le_refl _) _
       have uT:=hide (zl (U xE) (uj.trans (hal.mono uj.size)) ka)
       have HL6:=hide (zy w5 [.int .i64 N,.slice al L.length cl] 27)
       have HRL:Hid (RdR Od.vs 6 (w5.alloc (Obj.cells #[.int .i64 N,.slice al L.length cl] 27)) (.slice al L.length cl) L):=zh (ownR_rd (eu Od.len (by have:=(U HOK2).len; omega) jX)) hal (Nat.le_refl _)
       have hs6:w5.heap.size < (w5.alloc (Obj.cells #[.int .i64 N,.slice al L.length cl] 27)).heap.size:=by simp
       clear b0 b1 uj vT jX hal xE xO ka HAP
       have l0:(w5.alloc (Obj.cells #[.int .i64 N,.slice al L.length cl] 27)).cell? ⟨w5.heap.size,0,none⟩ = some (.int .i64 N):=zb (U HL6) 0 rfl
       have l1:(w5.alloc (Obj.cells #[.int .i64 N,.slice al L.length cl] 27)).cell? ⟨w5.heap.size,1,none⟩ = some (.slice al L.length cl):=zb (U HL6) 1 rfl
       have n0:(w5.alloc (Obj.cells #[.int .i64 N,.slice al L.length cl] 27)).cell? ⟨bn,0,none⟩ = some (.int .i64 N):=zb (zl (U HBN1) (U vV) hbn1.2) 0 rfl
       have n1:(w5.alloc (Obj.cells #[.int .i64 N,.slice al L.length cl] 27)).cell? ⟨bn,1,none⟩ = some (.slice jz L.length jA):=zb (zl (U HBN1) (U vV) hbn1.2) 1 rfl
       have z0:(w5.alloc (Obj.cells #[.int .i64 N,.slice al L.length cl] 27)).cell? ⟨w3.heap.size,0,none⟩ = some (.int .i64 0):=zb (U uT) 0 rfl
       go_wp2_with fail
       generalize (w5.alloc (Obj.cells #[.int .i64 N,.slice al L.length cl] 27)) = W6 at vV uT HL6 HRL hs6 l0 l1 n0 n1 z0 ⊢
       refine (smBook_same N _ _ L W6 (U HRL) (zh (U HRN1) (U vV) (Nat.le_refl _))).mono ?_
       rintro e w7 ⟨rfl,vQ⟩
       have hV7:=(U vV).trans (vQ.mono (U vV).size)
       have HV7:=hide hV7
       have HBB7:=hide (zl (U pZ) hV7 S1)
       have m0:w7.cell? ⟨bn,0,none⟩ = some (.int .i64 N):=zb (zl (U HBN1) hV7 hbn1.2) 0 rfl
       have m1:w7.cell? ⟨bn,1,none⟩ = some (.slice jz L.length jA):=zb (zl (U HBN1) hV7 hbn1.2) 1 rfl
       have s0:=zb (U HBB7) 0 rfl
       have s1:=zb (U HBB7) 1 rfl
       have k0:=zd (U HBB7) 0 (by show 0 < 2; omega)
       have k1:=zd (U HBB7) 1 (by show 1 < 2; omega)
       have HZ:Hid (Bx (w7.setCells w1.heap.size 0 [.int .i64 N,.slice jz L.length jA]) w1.heap.size [.int .i64 (runS (cs.take (k + 1))).n,.slice jz L.length jA]∧RdR Od.vs 6 (w7.setCells w1.heap.size 0 [.int .i64 N,.slice jz L.length jA]) (.slice jz L.length jA) (runS (cs.take (k + 1))).l∧Below w1.heap.size w1 (w7.setCells w1.heap.size 0 [.int .i64 N,.slice jz L.length jA])):=by
        rw [U kN]
        exact ⟨⟨yY _ _ _ _ (U HBB7).t,xc (U HBB7).t _ _ _⟩,rd_setC (zh (U HRN1) hV7 (Nat.le_refl _)) (fun _ e=>by have:=U HNB _ e; omega),zj w1.heap.size (Nat.le_refl _) _ 0 w7 ((U HVW1).trans (hV7.mono (U HVW1).size))⟩
       clear l0 l1 n0 n1 z0 vQ hV7 vV uT HL6 HRL
       go_wp2_with fail
       try dsimp only [H,I,J,Z,yj,yk,yv,yw,yx,yp,yq,O]
       go_roundw
       case rel=>exact ⟨k + 1,.slice jz L.length jA,by omega,by omega,by go_num,(U HZ).1,(U HZ).2.1,hsn,(U HZ).2.2⟩
       case measure=>simp [intOf]; omega
   ·obtain rfl:k = 12:=by omega
    have pP:((12:Nat):Int) < cs.length:=by omega
    go_wp2_with fail
    go_ret
    exact ⟨rfl,(U xU).trans ((U HBL).mono (U xU).size)⟩
  ·obtain rfl:k = cs.length:=by omega
   have hcl2:¬ ((cs.length:Int) < cs.length):=by omega
   go_wp2_with fail
   go_ret
   exact ⟨rfl,(U xU).trans ((U HBL).mono (U xU).size)⟩
set_option maxRecDepth 100000 in
set_option maxHeartbeats 800000 in
theorem lawRules (a0:Option Addr) (len0 cap0:Nat) (z0:List Int) (w:World)
  (w0:(a0 = none∧len0 = 0∧cap0 = 0∧z0 = []) ∨ ∃ x,a0 = some x∧len0 ≤ cap0∧cap0 ≤ maxLen∧z0.length = cap0∧(∀ i,i < z0.length→w.cell? (x.add i) = some (.int .u8 (z0.getD i 0)))∧∀ n ∈ z0,(Lit.int .u8 n).wf = true) (hE:ErrT w) :
  Calls Tryz.prog 3 #[.slice a0 len0 cap0] w fun e w'=>e = .returned (.bool true)∧Below w.heap.size w w':=by
 by_cases h0:1048576 < len0
 ·have h0':(1048576:Int) < len0:=by omega
  clear w0 hE
  go_enter Tryz.func3,Tryz.ntmps3
  go_wp2_with fail
  go_ret
  exact ⟨rfl,Below.refl _ _⟩
 obtain ⟨e0,r0,b0⟩:=rd_of_row w0 (by omega)
 exact govLaw _ _ w r0 b0 (by omega) hE
end Go.Proofs.YthhkapcbocgcoaaGreatDoor
