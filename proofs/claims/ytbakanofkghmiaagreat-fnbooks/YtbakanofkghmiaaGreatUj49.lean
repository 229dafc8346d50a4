/-
  The law of the books, walked.
-/
import Derived.Test.YtbakanofkghmiaaGreatUj46
import Derived.Test.YtbakanofkghmiaaGreatUj48
set_option linter.unusedVariables false
set_option maxHeartbeats 6400000
set_option maxRecDepth 100000
namespace Go.Proofs.YtbakanofkghmiaaGreat
open Go.RowKit
theorem booLaw (v:Value) (l:List Int) (w:World) (hr:Rd w v l) (O:Bts l) (hl:l.length ≤ 1048576) :
  Calls Tryz.prog 3 #[v] w fun e w'=>e = yl (.bool true)∧ym w w':=by
 have HR:=Y hr
 have HBT:=Y O
 obtain ⟨a,A,rfl,-,-⟩:=hr
 clear O
 have hl':¬ ((1048576:Int) < l.length):=by omega
 go_enter Tryz.func3,Tryz.ntmps3
 go_wp2_with fail
 refine (scriptOf_any _ l w (U HR) (U HBT)).mono ?_
 rintro e w1 ⟨o,cs,rfl,oK,hn,xN,xU⟩
 obtain ⟨ao,co,rfl⟩:=dW xN
 have HRC:Hid (RdR Cm.vs 8 w1 (.slice ao cs.length co) cs):=cw (bB Cm.len (by omega) xN)
 have qw:Hid (∀ c ∈ cs,c.g.size ≤ maxLen):=fun c hc=>yL (oK c hc).1 (by unfold maxLen; omega)
 have xW:=Y xU
 have HTY:=Y (fun i c g hc hg=>types_ok cs (by omega) i c g hc hg)
 have kI:Hid ((rsF cs).g.length = cs.length):=by
  show _ = _
  rw [rsF,if_pos (by omega)]
  exact (run_inv cs (by omega)).2.2.2
 have hcf:cntF cs.length = 0:=cntF_zero.2 (by omega)
 have HIM:=Y (fun W hW=>implRunScript_any (.slice ao cs.length co) cs W hW (U qw))
 have HSM:=Y (fun W hW=>specRunScript_any (.slice ao cs.length co) cs W hW (U qw))
 simp only [hcf] at HIM HSM
 have kH:Hid (∀ k c,cs[k]? = some c→(rsF cs).g[k]? = some (stE (runS (cs.take k)).n (runS (cs.take k)).l c)):=fun k c hc=>by
  have hk:=(yE.1 hc).1
  obtain ⟨d,G,D⟩:=run_group cs cs.length hb k hk
  rw [yX hb] at D
  rw [hc] at G
  obtain rfl:=Option.some.inj G
  rw [rsF,if_pos (by omega)]
  exact D
 have HFN:Hid ((rsF cs).n = (runS cs).n∧(rsF cs).l = (runS cs).l):=by rw [rsF,if_pos (by omega)]; exact ⟨rfl,rfl⟩
 have HOK:=Y (okB_run cs (fun c hc=>(oK c hc).2))
 generalize rsF cs = qt at HTY kI HIM HSM kH HFN
 have HOF:Hid (OkB qt.n qt.l):=by
  have:=U HOK cs.length hb
  rw [yX hb,← (U HFN).1,← (U HFN).2] at this
  exact this
 have HGM:Hid (∀ es ∈ qt.g,es.length ≤ 1000):=fun es he=>by
  obtain ⟨i,hi⟩:=List.getElem?_of_mem he
  have xI:=(yE.1 hi).1
  obtain ⟨c,hc⟩:∃ c,cs[i]? = some c:=⟨_,yF (by rw [U kI] at xI; exact xI)⟩
  obtain ⟨_,_,_,G,_⟩:=U HTY i c es hc hi
  omega
 clear oK xN xU HR HBT hcf
 go_wp2_with fail
 refine (U HIM w1 (U HRC)).mono ?_
 rintro e w2 ⟨gv,vq,rfl,uc,oW,xS⟩
 obtain ⟨gs,qk,qc,vh,-⟩:=uc.ex
 have kF:=grs_rd qk qc vh (by rw [U kI]; omega) (U HGM)
 obtain ⟨ag,cg,rfl,-⟩:=id kF
 obtain ⟨aq,cq,rfl⟩:=dW oW
 have hro:=cw (bB Od.len (by have:=(U HOF).len; omega) oW)
 have uy:Hid (ym w (w2.alloc (N #[.slice ag qt.g.length cg,H qt.n,.slice aq qt.l.length cq,H qt.t.gr,H qt.t.ac,H qt.t.rf,H qt.t.tr,H qt.t.vo,H qt.t.no,H qt.t.li,H qt.t.le] 32))):=(eE (U xW) xS).trans ((eB _ _).mono (yL (U xW).size xS.size))
 have HX:=Y (bM w2 [.slice ag qt.g.length cg,H qt.n,.slice aq qt.l.length cq,H qt.t.gr,H qt.t.ac,H qt.t.rf,H qt.t.tr,H qt.t.vo,H qt.t.no,H qt.t.li,H qt.t.le] 32)
 have qV:w2.heap.size < (w2.alloc (N #[.slice ag qt.g.length cg,H qt.n,.slice aq qt.l.length cq,H qt.t.gr,H qt.t.ac,H qt.t.rf,H qt.t.tr,H qt.t.vo,H qt.t.no,H qt.t.li,H qt.t.le] 32)).heap.size:=by simp
 have HRO:=Y (zh hro ((Below.refl w2.heap.size w2).alloc hb (N #[.slice ag qt.g.length cg,H qt.n,.slice aq qt.l.length cq,H qt.t.gr,H qt.t.ac,H qt.t.rf,H qt.t.tr,H qt.t.vo,H qt.t.no,H qt.t.li,H qt.t.le] 32)) hb)
 have HRG:=Y (cU kF ((Below.refl w2.heap.size w2).alloc hb (N #[.slice ag qt.g.length cg,H qt.n,.slice aq qt.l.length cq,H qt.t.gr,H qt.t.ac,H qt.t.rf,H qt.t.tr,H qt.t.vo,H qt.t.no,H qt.t.li,H qt.t.le] 32)) hb)
 have HRC2:=Y (zh (zh (U HRC) xS hb) ((Below.refl w2.heap.size w2).alloc hb (N #[.slice ag qt.g.length cg,H qt.n,.slice aq qt.l.length cq,H qt.t.gr,H qt.t.ac,H qt.t.rf,H qt.t.tr,H qt.t.vo,H qt.t.no,H qt.t.li,H qt.t.le] 32)) hb)
 clear uc oW xS qk qc vh kF hro HRC HIM xW
 go_wp2_with fail
 generalize (w2.alloc (N #[.slice ag qt.g.length cg,H qt.n,.slice aq qt.l.length cq,H qt.t.gr,H qt.t.ac,H qt.t.rf,H qt.t.tr,H qt.t.vo,H qt.t.no,H qt.t.li,H qt.t.le] 32)) = W2 at uy HX qV HRG HRC2 HRO ⊢
 refine (U HSM W2 (U HRC2)).mono ?_
 rintro e w4 ⟨gv,vq,rfl,uc,oW,xy⟩
 obtain ⟨gs,qk,qc,vh⟩:=uc.ex
 have kF:=grs_rd qk qc vh (by rw [U kI]; omega) (U HGM)
 obtain ⟨ag2,cg2,rfl,-⟩:=id kF
 obtain ⟨aq2,cq2,rfl⟩:=dW oW
 have hro:=cw (bB Od.len (by have:=(U HOF).len; omega) oW)
 obtain ⟨hal,HY5⟩:=eG w4 [.slice ag2 qt.g.length cg2,H qt.n,.slice aq2 qt.l.length cq2,H qt.t.gr,H qt.t.ac,H qt.t.rf,H qt.t.tr,H qt.t.vo,H qt.t.no,H qt.t.li,H qt.t.le] 32
 have jf:=Y ((U uy).trans ((eE xy hal).mono (U uy).size))
 have HX5:=Y (zM (U HX) (eE xy hal) qV)
 have jC:=Y (cU (U HRG) (eE xy hal) hb)
 have HH5:=Y (cU kF hal hb)
 have kL:=Y (zh (U HRO) (eE xy hal) hb)
 have HP5:=Y (zh hro hal hb)
 have HC5:=Y (zh (U HRC2) (eE xy hal) hb)
 have ku:w2.heap.size < w4.heap.size∧w4.heap.size < (w4.alloc (N #[.slice ag2 qt.g.length cg2,H qt.n,.slice aq2 qt.l.length cq2,H qt.t.gr,H qt.t.ac,H qt.t.rf,H qt.t.tr,H qt.t.vo,H qt.t.no,H qt.t.li,H qt.t.le] 32)).heap.size:=⟨yH qV xy.size,by simp⟩
 clear uc oW xy hal qk qc vh kF hro HRC2 HRG HRO HX uy HSM
 have x0:=zF (U HX5) 0 rfl
 have y0:=zF (U HY5) 0 rfl
 go_wp2_with fail
 generalize (w4.alloc (N #[.slice ag2 qt.g.length cg2,H qt.n,.slice aq2 qt.l.length cq2,H qt.t.gr,H qt.t.ac,H qt.t.rf,H qt.t.tr,H qt.t.vo,H qt.t.no,H qt.t.li,H qt.t.le] 32)) = W5 at jf HX5 HY5 jC HH5 kL HP5 HC5 ku x0 y0 ⊢
 refine (smGs_same _ _ qt.g W5 (U jC) (U HH5)).mono ?_
 rintro e w6 ⟨rfl,jl⟩
 have h26:w2.heap.size < w6.heap.size:=yH (Nat.lt_trans ku.1 ku.2) jl.size
 have h46:w4.heap.size < w6.heap.size:=yH ku.2 jl.size
 have jd:=Y (eE (U jf) jl)
 have HX6:=Y (zM (U HX5) jl (Nat.lt_trans ku.1 ku.2))
 have HY6:=Y (zM (U HY5) jl ku.2)
 have ki:=Y (cU (U jC) jl hb)
 have HC6:=Y (zh (U HC5) jl hb)
 have HO6:=Y (zh (U kL) jl hb)
 have HP6:=Y (zh (U HP5) jl hb)
 clear jl jf HX5 HY5 jC HH5 HC5 kL HP5 x0 y0 ku qV
 have x1:=zF (U HX6) 1 rfl
 have y1:=zF (U HY6) 1 rfl
 have x2:=zF (U HX6) 2 rfl
 have y2:=zF (U HY6) 2 rfl
 go_wp2_with fail
 refine (er qt.n _ _ qt.l w6 (U HO6) (U HP6)).mono ?_
 rintro e w7 ⟨rfl,qj⟩
 have h27:w2.heap.size < w7.heap.size:=yH h26 qj.size
 have jJ:=Y (eE (U jd) qj)
 have HX7:=Y (zM (U HX6) qj h26)
 have pp:=Y (zM (U HY6) qj h46)
 have pg:=Y (cU (U ki) qj hb)
 have HC7:=Y (zh (U HC6) qj hb)
 have HO7:=Y (zh (U HO6) qj hb)
 clear qj jd HX6 HY6 ki HC6 HO6 HP6 x1 y1 x2 y2 h26 h46
 have x1:=zF (U HX7) 1 rfl
 have x2:=zF (U HX7) 2 rfl
 have x3:=zF (U HX7) 3 rfl
 have x4:=zF (U HX7) 4 rfl
 have x5:=zF (U HX7) 5 rfl
 have x6:=zF (U HX7) 6 rfl
 have x7:=zF (U HX7) 7 rfl
 have x8:=zF (U HX7) 8 rfl
 have x9:=zF (U HX7) 9 rfl
 have x10:=zF (U HX7) 10 rfl
 have y3:=zF (U pp) 3 rfl
 have y4:=zF (U pp) 4 rfl
 have y5:=zF (U pp) 5 rfl
 have y6:=zF (U pp) 6 rfl
 have y7:=zF (U pp) 7 rfl
 have y8:=zF (U pp) 8 rfl
 have y9:=zF (U pp) 9 rfl
 have az:=zF (U pp) 10 rfl
 go_wp2_with fail
 refine (ed qt.n _ qt.l w7 (U HO7) (okB_tags (U HOF))).mono ?_
 rintro e w8 ⟨rfl,hb8⟩
 rw [okI_eq,okB_ok (U HOF)]
 have h28:w2.heap.size < w8.heap.size:=yH h27 hb8.size
 have vG:=Y (eE (U jJ) hb8)
 have HX8:=Y (zM (U HX7) hb8 h27)
 have HG8:=Y (cU (U pg) hb8 hb)
 have HC8:=Y (zh (U HC7) hb8 hb)
 have HO8:=Y (zh (U HO7) hb8 hb)
 clear hb8 jJ HX7 pp pg HC7 HO7 x1 x2 x3 x4 x5 x6 x7 x8 x9 x10 y3 y4 y5 y6 y7 y8 y9 az h27
 have ka:Hid (ym w8 (w8.alloc (N #[H 1,.slice none 0 0] 28))):=eB _ _
 have HX9:=Y (bM w8 [H 1,.slice none 0 0] 28)
 go_wp2_with fail
 generalize (w8.alloc (N #[H 1,.slice none 0 0] 28)) = W9 at ka HX9 ⊢
 generalize Value.tuple #[.agg #[.slice ag qt.g.length cg,H qt.n,.slice aq qt.l.length cq,H qt.t.gr,H qt.t.ac,H qt.t.rf,H qt.t.tr,H qt.t.vo,H qt.t.no,H qt.t.li,H qt.t.le],H 0] = dA
 generalize Value.tuple #[.agg #[.slice ag2 qt.g.length cg2,H qt.n,.slice aq2 qt.l.length cq2,H qt.t.gr,H qt.t.ac,H qt.t.rf,H qt.t.tr,H qt.t.vo,H qt.t.no,H qt.t.li,H qt.t.le],H 0] = dB
 generalize Value.agg #[.slice ag qt.g.length cg,H qt.n,.slice aq qt.l.length cq,H qt.t.gr,H qt.t.ac,H qt.t.rf,H qt.t.tr,H qt.t.vo,H qt.t.no,H qt.t.li,H qt.t.le] = dC
 generalize Value.agg #[.slice ag2 qt.g.length cg2,H qt.n,.slice aq2 qt.l.length cq2,H qt.t.gr,H qt.t.ac,H qt.t.rf,H qt.t.tr,H qt.t.vo,H qt.t.no,H qt.t.li,H qt.t.le] = dD
 generalize Value.agg #[H qt.n,.slice aq qt.l.length cq] = dE
 generalize Value.agg #[H qt.n,.slice aq2 qt.l.length cq2] = dF
 generalize Value.agg #[H qt.t.gr,H qt.t.ac,H qt.t.rf,H qt.t.tr,H qt.t.vo,H qt.t.no,H qt.t.li,H qt.t.le] = dG
 generalize Value.agg #[H 1,.slice none 0 0] = dH
 go_loopw [9] (fun i wr=>∃ (k:Nat) (vq:Value),k ≤ cs.length∧i = H k∧Hid (Bx wr w8.heap.size [H (runS (cs.take k)).n,vq])∧Hid (RdR Od.vs 6 wr vq (runS (cs.take k)).l)∧SlOk vq∧ym w8 wr) (fun i _=>cs.length - (intOf i).toNat)
 case atStart=>exact ⟨0,.slice none 0 0,Nat.zero_le _,rfl,U HX9,⟨none,0,rfl,by simp [runS],by simp [runS]⟩,.inl rfl,U ka⟩
 case round =>
  obtain ⟨k,vq,hk,rfl,vp,hrv,hsl,oz⟩:=hrel
  have HBL:=Y oz
  have vC:=Y hsl
  obtain ⟨av,cv,rfl,-⟩:=id (U hrv)
  have hb0:=zF (U vp) 0 rfl
  have xU:=zF (U vp) 1 rfl
  have hsb:w8.heap.size < wr.heap.size:=yI wr _ hb0
  clear oz hsl
  by_cases xI:k < cs.length
  ·obtain ⟨c,hc⟩:∃ c,cs[k]? = some c:=⟨_,yF xI⟩
   have kg:(k:Int) < cs.length:=by omega
   have hkg:(k:Int) < qt.g.length:=by rw [U kI]; exact kg
   have uM:=U HOK k (by omega)
   have uO:=cK cs hc
   have hfg:=U kH k c hc
   have hty:=U HTY k c _ hc hfg
   have hok2:=U HOK (k + 1) (by omega)
   have hgt:=U qw c (yM hc)
   obtain ⟨lb,lo,rfl,qq⟩:∃ lb lo,ao = some (J lb lo)∧(∀ W,ym w8 W→W.rangeAt lb (lo + k * 8) c.vs):=by
    obtain ⟨a1,c1,e1,-,G⟩:=U HC8
    simp only [Value.slice.injEq,true_and] at e1
    obtain ⟨b,off,D,ke,h3⟩:=G (by intro h; rw [h] at hc; simp at hc)
    exact ⟨b,off,e1.1.trans D,fun W hW=>zb (h3 k c hc) hW ke⟩
   rw [uO] at hok2
   generalize runS (cs.take k) = s at vp hrv uM uO hfg hty hok2 hb0 xU vC
   have HSP:Hid (∀ W,RdR Od.vs 6 W (.slice av s.l.length cv) s.l→Calls Tryz.prog 15 #[.agg #[H s.n,.slice av s.l.length cv],.agg (yv c.k c.s c.t c.l c.q c.i c.p c.g).toArray] W fun e w'=>∃ vq vg,e = yl (.tuple #[.agg #[H (stN s.n s.l c),vq],vg,H 0])∧ORow w' W.heap.size vq (stL s.n s.l c)∧ERow w' W.heap.size vg (stE s.n s.l c)∧ym W w'):=fun W hW=>by
    have h:=implStepBook_any s.n (.slice av s.l.length cv) s.l c W hW (U vC) (okB_tags uM) hgt
    rw [spN,spL,spE,reaC,if_pos (okB_ok uM),if_pos (okB_ok uM),if_pos (okB_ok uM),if_pos (okB_ok uM)] at h
    exact h
   have qZ:=Y (fun e es (he:stE s.n s.l c = e :: es)=>kind_two he)
   have HOK2:Hid (OkB (stN s.n s.l c) (stL s.n s.l c)):=hok2
   have HST2:Hid (runS (cs.take (k + 1)) = ⟨stN s.n s.l c,stL s.n s.l c,_,_⟩):=uO
   have kZ:=Y hfg
   have oP:=Y hty
   clear uM hok2 uO hfg hty hgt hc
   generalize stN s.n s.l c = eD at HSP qZ HOK2 HST2
   generalize stL s.n s.l c = tg at HSP qZ HOK2 HST2
   generalize stE s.n s.l c = hR at HSP qZ kZ oP HST2
   have ju:=Y qq
   clear qq
   go_wp2_with fail
   clear hb0 xU
   refine zi (RG wr (fun f=>{ tmps:=#[.slice a l.length A,M,u2,.slice (some (J lb lo)) cs.length co,yn w2 0,H 0,yn w4 0,H 0,yn w8 0,H k,f 10,f 12,f 13,.slice a l.length A,H l.length,.bool false,.slice a l.length A,.slice (some (J lb lo)) cs.length co,dA,.slice (some (J lb lo)) cs.length co,dA,dC,H 0,dB,.slice (some (J lb lo)) cs.length co,dB,dD,H 0,H 0,.bool false,.bool false,yn w2 0,.slice ag qt.g.length cg,yn w4 0,.slice ag2 qt.g.length cg2,.bool true,.bool false,.bool false,.bool false,yn w2 1,dE,yn w4 1,dF,.bool true,.bool false,.bool false,.bool false,yn w2 3,dG,yn w4 3,dG,.bool false,.bool false,.bool false,yn w2 1,dE,.bool true,.bool false,.bool false,dH,H k,.slice (some (J lb lo)) cs.length co,H cs.length,.bool true,u64,u65,f 6,f 0,f 1,f 2,f 3,f 4,f 5,f 7,f 8,f 9,u76,u77,u78,u79,u80,u81,u82,u83,u84,u85,u86,u87,u88,u89,u90,u91,u92,u93,u94,u95,u96,u97,u98,u99,u100,u101,u102,u103,u104,u105,u106,u107,u108,u109,M,M,M,M],defers:=[] }) 11 (DL [.agg #[H s.n,.slice av s.l.length cv],.slice (some (J lb lo)) cs.length co,H k,I lb (lo + k * 8),.agg (yv c.k c.s c.t c.l c.q c.i c.p c.g).toArray,M,M,M,M,H 0,M,M,M,H 0] [(5,2),(6,2),(7,3),(8,4),(10,5),(11,9),(12,4)] wr.heap.size s.n eD 0 s.l tg hR)) (by kernel_rfl) ?_ ?_ ?_
   ·exact ⟨fun j=>if j = 0 then u67 else if j = 1 then u68 else if j = 2 then u69 else if j = 3 then u70 else if j = 4 then u71 else if j = 5 then u72 else if j = 6 then u66 else if j = 7 then u73 else if j = 8 then u74 else if j = 9 then u75 else if j = 10 then u10 else if j = 12 then u11 else if j = 13 then u12 else M,rfl,⟨rfl,rfl,rfl,Nat.le_refl _,fun _ _=>rfl⟩,fun j K=>by rw [yG] at K; split at K <;> simp at K⟩
   rotate_left
   ·rintro x xj V i op ⟨f,rfl,xh,hD⟩ X hx Z xu Q
    have xr:=Y xh
    have HD:=Y hD
    have b0:=zF (zM (U vp) xh hsb) 0 rfl
    have b1:=zF (zM (U vp) xh hsb) 1 rfl
    obtain ⟨l0,l1,l2,l3,l4,l5,l6,l7⟩:=cm_cells (U ju V (eE (U HBL) xh))
    have af:=Y (zh (U hrv) xh hb)
    match i,Z with
    | 0,Z =>
     obtain rfl:=ya Z
     clear Q hD xh X
     rw [if_pos (by rfl)];unfold Oper.wp;go_simp
     exact ⟨upd f 0 (.agg #[H s.n,.slice av s.l.length cv]),by simp [upd],zd (U xr) (U HD) (by decide) (dl_mkv rfl rfl)⟩
    | 1,Z =>
     obtain rfl:=ya Z
     clear Q hD xh X
     rw [if_pos (by rfl)];unfold Oper.wp;go_simp
     exact ⟨upd f 1 (.slice (some (J lb lo)) cs.length co),by simp [upd],zd (U xr) (U HD) (by decide) (dl_mkv rfl rfl)⟩
    | 2,Z =>
     obtain rfl:=ya Z
     clear Q hD xh X
     rw [if_pos (by rfl)];unfold Oper.wp;go_simp
     exact ⟨upd f 2 (H k),by simp [upd],zd (U xr) (U HD) (by decide) (dl_mkv rfl rfl)⟩
    | 3,Z =>
     obtain rfl:=ya Z
     have g1:f 1 = .slice (some (J lb lo)) cs.length co:=dl_val (hD 1 (yd Q 1 rfl)) rfl rfl
     have g2:f 2 = H k:=dl_val (hD 2 (yd Q 2 rfl)) rfl rfl
     clear Q hD xh X
     rw [if_pos (by rfl)];unfold Oper.wp;go_simp
     exact ⟨upd f 3 (I lb (lo + k * 8)),by simp [upd,g1,g2],zd (U xr) (U HD) (by decide) (dl_mkv rfl rfl)⟩
    | 4,Z =>
     obtain rfl:=ya Z
     have g3:f 3 = I lb (lo + k * 8):=dl_val (hD 3 (yd Q 3 rfl)) rfl rfl
     clear Q hD xh X
     rw [if_pos (by rfl)];unfold Oper.wp;go_simp
     exact ⟨upd f 4 (.agg (yv c.k c.s c.t c.l c.q c.i c.p c.g).toArray),by simp [upd,g3],zd (U xr) (U HD) (by decide) (dl_mkv rfl rfl)⟩
    | 5,Z =>
     obtain rfl:=ya Z
     have hp:¬ x[11]? = some true:=by rw [zy X 13 5 11 (by kernel_rfl) hx (by simp) xu]; simp
     have g0:f 0 = .agg #[H s.n,.slice av s.l.length cv]:=dl_val (hD 0 (yd Q 0 rfl)) rfl rfl
     have g4:f 4 = .agg (yv c.k c.s c.t c.l c.q c.i c.p c.g).toArray:=dl_val (hD 4 (yd Q 4 rfl)) rfl rfl
     have hS:=xh.size
     clear Q hD xh X
     rw [if_pos (by rfl)];unfold Oper.wp;go_simp
     refine (U HSP V (U af)).mono ?_
     rintro e w4 ⟨vq,vg,rfl,kr,he4,xy⟩
     obtain ⟨ji,jj,rfl⟩:=zL kr
     obtain ⟨oQ,ps,rfl⟩:=zL he4
     exact ⟨upd f 5 (.tuple #[.agg #[H eD,.slice ji tg.length jj],.slice oQ hR.length ps,H 0]),by simp [upd,g0,g4],cx dl_grow (U xr) (U HD) xy (by decide) (dl_mk2 rfl ⟨ji,jj,oQ,ps,rfl,zE kr hS,zE he4 hS⟩)⟩
    | 6,Z =>
     obtain rfl:=ya Z
     obtain ⟨ji,jj,oQ,ps,g,D,h3⟩:=dl_2 (hD 5 (yd Q 5 rfl)) rfl
     have H2:=Y D
     have H3:=Y h3
     clear D h3
     clear Q hD xh X
     rw [if_pos (by rfl)];unfold Oper.wp;go_simp
     exact ⟨upd f 6 (.tuple #[.agg #[H eD,.slice ji tg.length jj],.slice oQ hR.length ps,H 0]),by simp [upd,g],zd (U xr) (U HD) (by decide) (dl_mk2 rfl ⟨ji,jj,oQ,ps,rfl,U H2,U H3⟩)⟩
    | 7,Z =>
     obtain rfl:=ya Z
     obtain ⟨ji,jj,oQ,ps,g,D,h3⟩:=dl_2 (hD 6 (yd Q 6 rfl)) rfl
     have H2:=Y D
     have H3:=Y h3
     clear D h3
     clear Q hD xh X
     rw [if_pos (by rfl)];unfold Oper.wp;go_simp
     exact ⟨upd f 7 (.agg #[H eD,.slice ji tg.length jj]),by simp [upd,g],zd (U xr) (U HD) (by decide) (dl_mk3 rfl ⟨ji,jj,rfl,U H2⟩)⟩
    | 8,Z =>
     obtain rfl:=ya Z
     obtain ⟨ji,jj,oQ,ps,g,D,h3⟩:=dl_2 (hD 6 (yd Q 6 rfl)) rfl
     have H2:=Y D
     have H3:=Y h3
     clear D h3
     clear Q hD xh X
     rw [if_pos (by rfl)];unfold Oper.wp;go_simp
     exact ⟨upd f 8 (.slice oQ hR.length ps),by simp [upd,g],zd (U xr) (U HD) (by decide) (dl_mk4 rfl ⟨oQ,ps,rfl,U H3⟩)⟩
    | 9,Z =>
     obtain rfl:=ya Z
     obtain ⟨ji,jj,oQ,ps,g,D,h3⟩:=dl_2 (hD 6 (yd Q 6 rfl)) rfl
     have H2:=Y D
     have H3:=Y h3
     clear D h3
     clear Q hD xh X
     rw [if_pos (by rfl)];unfold Oper.wp;go_simp
     exact ⟨upd f 9 (H 0),by simp [upd,g],zd (U xr) (U HD) (by decide) (dl_mkv rfl rfl)⟩
    | 10,Z =>
     obtain rfl:=ya Z
     have hp:¬ x[11]? = some true:=by rw [zy X 13 10 11 (by kernel_rfl) hx (by simp) xu]; simp
     have hS:=xh.size
     clear Q hD xh X
     rw [if_pos (by rfl)];unfold Oper.wp;go_simp
     exact ⟨upd f 10 (yn V 0),by simp [upd],cx dl_grow (U xr) (U HD) (eB _ _) (by decide) (dl_mk5 rfl hp hS)⟩
    | 11,Z =>
     obtain rfl:=ya Z
     obtain ⟨ji,jj,g7,ho6⟩:=dl_3 (hD 7 (yd Q 7 rfl)) rfl
     obtain ⟨b,qy,ar,hltb,xE,hbx2,-⟩:=dl_5 (hD 10 (yd Q 10 rfl)) rfl
     have uI:Hid (∀ j,j ≠ 11→x[j]? = some true→DL [.agg #[H s.n,.slice av s.l.length cv],.slice (some (J lb lo)) cs.length co,H k,I lb (lo + k * 8),.agg (yv c.k c.s c.t c.l c.q c.i c.p c.g).toArray,M,M,M,M,H 0,M,M,M,H 0] [(5,2),(6,2),(7,3),(8,4),(10,5),(11,9),(12,4)] wr.heap.size s.n eD 0 s.l tg hR False V j (f j)→DL [.agg #[H s.n,.slice av s.l.length cv],.slice (some (J lb lo)) cs.length co,H k,I lb (lo + k * 8),.agg (yv c.k c.s c.t c.l c.q c.i c.p c.g).toArray,M,M,M,M,H 0,M,M,M,H 0] [(5,2),(6,2),(7,3),(8,4),(10,5),(11,9),(12,4)] wr.heap.size s.n eD 0 s.l tg hR True (V.setCells b 0 [H eD,.slice ji tg.length jj]) j (f j)):=fun j K hxj h=>dl_store ar xE hltb hbx2 ho6 (fun h5=>by
      have:=look_only h5 (i:=10) (by decide)
      rw [this]; exact qy) h
     have ud:=Y (zm b ar [H eD,.slice ji tg.length jj] 0 _ xh)
     obtain ⟨p0,x0,f0⟩:=zc xE (j:=0) (by omega)
     obtain ⟨p1,x1,f1⟩:=zc xE (j:=1) (by omega)
     clear Q hD xh X xE hbx2 ho6
     rw [if_pos (by rfl)];unfold Oper.wp;go_simp
     exact ⟨f,by simp [g7,qy],rg_write2 (U ud) (U HD) xu (U uI) (dl_mk9 rfl)⟩
    | 12,Z =>
     obtain rfl:=ya Z
     obtain ⟨oQ,ps,g,h3⟩:=dl_4 (hD 8 (yd Q 8 rfl)) rfl
     have H3:=Y h3
     clear h3
     clear Q hD xh X
     rw [if_pos (by rfl)];unfold Oper.wp;go_simp
     exact ⟨upd f 12 (.slice oQ hR.length ps),by simp [upd,g],zd (U xr) (U HD) (by decide) (dl_mk4 rfl ⟨oQ,ps,rfl,U H3⟩)⟩
    | 13,Z =>
     obtain rfl:=ya Z
     have g9:f 9 = H 0:=dl_val (hD 9 (yd Q 9 rfl)) rfl rfl
     clear Q hD xh X
     rw [if_pos (by rfl)];unfold Oper.wp;go_simp
     exact ⟨upd f 13 (H 0),by simp [upd,g9],zd (U xr) (U HD) (by decide) (dl_mkv rfl rfl)⟩
    | n + 14,Z=>simp at Z
   ·rintro x xj V ⟨f,rfl,xh,hD⟩ hx xL
    have xn:=zO xL hx (by kernel_rfl)
    obtain ⟨oQ,ps,ak,hge3⟩:=dl_4 (hD 12 (xn 12 (by simp))) rfl
    have e13:f 13 = H 0:=dl_val (hD 13 (xn 13 (by simp))) rfl rfl
    obtain ⟨bn,jR,hSn,pG,hthn,-,hstn⟩:=dl_5 (hD 10 (xn 10 (by simp))) rfl
    obtain ⟨ji,jj,hran,hron⟩:=hstn (xn 11 (by simp))
    simp only [ak,e13,jR]
    have HVW:Hid (ym w8 V):=(U HBL).trans (xh.mono (U HBL).size)
    have HBN:Hid (Bx V bn [H eD,.slice ji tg.length jj]):=⟨hran,hthn⟩
    have HBB:=Y (zM (U vp) xh hsb)
    have HRB:=Y (zh (U hrv) xh hb)
    have HRN:Hid (RdR Od.vs 6 V (.slice ji tg.length jj) tg):=cw (bB Od.len (by have:=(U HOK2).len; omega) hron)
    have hsn:SlOk (.slice ji tg.length jj):=oRow_sl hron
    have hnb:Hid (∀ g,(Value.slice ji tg.length jj).ownBlock = some g→wr.heap.size ≤ g):=fun g hg=>(hron.lt g hg).1
    have hEl:hR.length ≤ 100:=by obtain ⟨_,_,_,h,_⟩:=U oP; exact h
    have vH:Hid (RdR Ev.vs 14 V (.slice oQ hR.length ps) hR):=cw (bB Ev.len (by omega) hge3)
    have hsV:=xh.size
    clear hD xn xL hx hran hthn hstn hron hge3 jR ak e13 xh hrv vp
    generalize f 0 = tq0,f 1 = tq1,f 2 = tq2,f 3 = tq3,f 4 = tq4,f 5 = tq5,f 6 = tq6,f 7 = tq7,f 8 = tq8,f 9 = tq9
    have x0:=zF (zM (U HX8) (U HVW) h28) 0 rfl
    obtain ⟨gb,go,ga,gc,rfl,g0,uc⟩:∃ gb go ga gc,ag = some (J gb go)∧V.cell? (J gb (go + k)) = some (.slice ga hR.length gc)∧RdR Ev.vs 14 V (.slice ga hR.length gc) hR:=by
     obtain ⟨a1,c1,e1,-,G⟩:=cU (U HG8) (U HVW) hb
     simp only [Value.slice.injEq,true_and] at e1
     obtain ⟨b,off,D,-,h3⟩:=G (by intro h; have:=U kZ; rw [h] at this; simp at this)
     obtain ⟨g,h4,h5⟩:=h3 k hR (U kZ)
     obtain ⟨ga,gc,rfl,-⟩:=id h5
     exact ⟨b,off,ga,gc,e1.1.trans D,h4,h5⟩
    have oa:=Y uc
    clear uc
    go_wp2_with fail
    refine (smEvents_same _ _ hR V (U vH) (U oa)).mono ?_
    rintro e V1 ⟨rfl,hv1⟩
    have HV1:=Y hv1
    have n0:=zF (zM (U HBN) hv1 pG) 0 rfl
    have n1:=zF (zM (U HBN) hv1 pG) 1 rfl
    clear hv1 x0 g0
    go_wp2_with fail
    refine (ed eD _ tg V1 (zh (U HRN) (U HV1) hb) (okB_tags (U HOK2))).mono ?_
    rintro e V2 ⟨rfl,hv2⟩
    rw [okI_eq,okB_ok (U HOK2)]
    have pn:=Y (eE (U HV1) hv2)
    clear hv2 n0 n1 HV1
    obtain ⟨e,es,he,-,-⟩:=U oP
    obtain ⟨eb,eo,rfl,hev⟩:∃ eb eo,oQ = some (J eb eo)∧V2.cell? (J eb eo) = some (H e.kind):=by
     obtain ⟨a1,c1,e1,-,G⟩:=zh (U vH) (U pn) hb
     simp only [Value.slice.injEq,true_and] at e1
     obtain ⟨b,off,D,-,h3⟩:=G (by rw [he]; simp)
     have:=h3 0 e (by rw [he]; rfl) 0 _ rfl
     exact ⟨b,off,e1.1.trans D,by simpa using this⟩
    have hE0:(0:Int) < hR.length:=by rw [he]; simp
    have hltn2:bn < V2.heap.size:=yH pG (U pn).size
    have kV:w8.heap.size < V.heap.size:=yH hsb hsV
    have n0:=zF (zM (U HBN) (U pn) pG) 0 rfl
    have n1:=zF (zM (U HBN) (U pn) pG) 1 rfl
    have m0:=zF (zM (U HBB) (U pn) kV) 0 rfl
    have m1:=zF (zM (U HBB) (U pn) kV) 1 rfl
    have ua:Hid (∀ W,ym V W→Bx (W.setCells w8.heap.size 0 [H eD,.slice ji tg.length jj]) w8.heap.size [H (runS (cs.take (k + 1))).n,.slice ji tg.length jj]∧RdR Od.vs 6 (W.setCells w8.heap.size 0 [H eD,.slice ji tg.length jj]) (.slice ji tg.length jj) (runS (cs.take (k + 1))).l∧ym w8 (W.setCells w8.heap.size 0 [H eD,.slice ji tg.length jj])):=fun W hW=>by
     have G:=zM (U HBB) hW kV
     rw [U HST2]
     refine ⟨⟨yV _ _ _ _ G.t,yZ G.t _ _ _⟩,rd_setC (zh (U HRN) hW hb) (fun _ e=>by have:=U hnb _ e; omega),zm w8.heap.size hb _ 0 W (eE (U HVW) hW)⟩
    by_cases hk2:e.kind = 2
    ·obtain ⟨rfl,hn2,hl2⟩:=U qZ e es he hk2
     have hE1:hR.length = 1:=by rw [he]; rfl
     have hE1':((hR.length:Int) != 1) = false:=by rw [hE1]; rfl
     rw [hk2] at hev
     have qb:Hid (RdR Od.vs 6 V2 (.slice av s.l.length cv) tg∧s.n = eD):=by
      rw [hn2,hl2]; exact ⟨zh (U HRB) (U pn) hb,rfl⟩
     clear hk2 he hn2 hl2 qZ
     go_wp2_with fail
     have h3:=er eD (.slice av s.l.length cv) (.slice ji tg.length jj) tg V2 (U qb).1 (zh (U HRN) (U pn) hb)
     rw [← (U qb).2] at h3
     rw [← (U qb).2]
     refine h3.mono ?_
     rintro e3 V3 ⟨rfl,hv3⟩
     have HV3:=Y (eE (U pn) hv3)
     clear hv3 n0 n1 m0 m1 h3
     have n0:=zF (zM (U HBN) (U HV3) pG) 0 rfl
     have n1:=zF (zM (U HBN) (U HV3) pG) 1 rfl
     have m0:=zF (zM (U HBB) (U HV3) kV) 0 rfl
     have m1:=zF (zM (U HBB) (U HV3) kV) 1 rfl
     have k0:=bx_free (zM (U HBB) (U HV3) kV) 0 (by show 0 < 2; omega)
     have k1:=bx_free (zM (U HBB) (U HV3) kV) 1 (by show 1 < 2; omega)
     obtain ⟨z1,z2,z3⟩:=U ua V3 (U HV3)
     have HZ:Hid (_∧_∧_):=⟨z1,z2,z3⟩
     clear z1 z2 z3
     go_wp2_with fail
     dsimp only [H,I,J,M,yi,yj,yt,yu,yv,yn,yp,N]
     go_roundw
     case rel=>exact ⟨k + 1,.slice ji tg.length jj,by omega,by go_num,(U HZ).1,(U HZ).2.1,hsn,(U HZ).2.2⟩
     case measure=>simp [intOf]; omega
    ·have xS:(e.kind == 2) = false:=by simpa using hk2
     have k0:=bx_free (zM (U HBB) (U pn) kV) 0 (by show 0 < 2; omega)
     have k1:=bx_free (zM (U HBB) (U pn) kV) 1 (by show 1 < 2; omega)
     obtain ⟨z1,z2,z3⟩:=U ua V2 (U pn)
     have HZ:Hid (_∧_∧_):=⟨z1,z2,z3⟩
     clear z1 z2 z3
     go_wp2_with fail
     dsimp only [H,I,J,M,yi,yj,yt,yu,yv,yn,yp,N]
     go_roundw
     case rel=>exact ⟨k + 1,.slice ji tg.length jj,by omega,by go_num,(U HZ).1,(U HZ).2.1,hsn,(U HZ).2.2⟩
     case measure=>simp [intOf]; omega
  ·obtain rfl:k = cs.length:=by omega
   rw [yX hb,← (U HFN).1] at vp hb0
   rw [yX hb,← (U HFN).2] at hrv
   have hcl2:¬ ((cs.length:Int) < cs.length):=by omega
   rw [yX hb,← (U HFN).2] at xU
   have x1:=zF (zM (U HX8) (U HBL) h28) 1 rfl
   have x2:=zF (zM (U HX8) (U HBL) h28) 2 rfl
   go_wp2_with fail
   refine (er qt.n _ _ qt.l wr (U hrv) (zh (U HO8) (U HBL) hb)).mono ?_
   rintro e w9 ⟨rfl,hb9⟩
   have HB10:=Y (((U vG).trans ((U HBL).mono (U vG).size)).trans (hb9.mono ((U vG).trans ((U HBL).mono (U vG).size)).size))
   clear hb9
   go_wp2_with fail
   go_ret
   exact ⟨rfl,U HB10⟩
theorem lawBooks (a0:Option Addr) (len0 cap0:Nat) (z0:List Int) (w:World)
  (w0:(a0 = none∧len0 = 0∧cap0 = 0∧z0 = []) ∨ ∃ x,a0 = some x∧len0 ≤ cap0∧cap0 ≤ maxLen∧z0.length = cap0∧(∀ i,i < z0.length→w.cell? (x.add i) = some (.int .u8 (z0.getD i 0)))∧∀ n ∈ z0,(Lit.int .u8 n).wf = true) :
  Calls Tryz.prog 3 #[.slice a0 len0 cap0] w fun e w'=>e = yl (.bool true)∧ym w w':=by
 by_cases h0:1048576 < len0
 ·have h0':(1048576:Int) < len0:=by omega
  clear w0
  go_enter Tryz.func3,Tryz.ntmps3
  go_wp2_with fail
  go_ret
  exact ⟨rfl,Below.refl _ _⟩
 obtain ⟨e0,r0,b0⟩:=rd_of_row w0 (by omega)
 exact booLaw _ _ w r0 b0 (by omega)
end Go.Proofs.YtbakanofkghmiaaGreat
