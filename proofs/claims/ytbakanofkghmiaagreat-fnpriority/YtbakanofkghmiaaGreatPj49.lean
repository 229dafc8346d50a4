/-
  The law of price and time, walked.
-/
import Derived.Test.YtbakanofkghmiaaGreatPj48
set_option linter.unusedVariables false
set_option maxHeartbeats 6400000
set_option maxRecDepth 100000
namespace Go.Proofs.YtbakanofkghmiaaGreat
open Go.RowKit
def DFr (vs:List Value) (S:Nat) (ov:List Value) (p:Prop) (W:World) (j:Nat) (v:Value):Prop :=
 if j = 11 then ∃ b,v = I b 0∧S ≤ b∧b < W.heap.size∧W.there b 0 6∧(p→W.rangeAt b 0 ov)
 else if j = 12 then True else ∀ u,vs[j]? = some u→v = u
section
variable {vs:List Value} {S:Nat} {ov:List Value} {p:Prop} {W W':World} {j:Nat} {v u:Value}
theorem bE (h:DFr vs S ov p W j v) (z:j ≠ 11) (K:j ≠ 12) (hu:vs[j]? = some u):v = u:=by
 rw [DFr,if_neg z,if_neg K] at h; exact h u hu
theorem bM (z:j ≠ 11) (K:j ≠ 12) (hu:vs[j]? = some v):DFr vs S ov p W j v:=by
 rw [DFr,if_neg z,if_neg K]; intro u h; rw [hu] at h; exact Option.some.inj h
theorem df_11 (h:DFr vs S ov p W 11 v):∃ b,v = I b 0∧S ≤ b∧b < W.heap.size∧W.there b 0 6∧(p→W.rangeAt b 0 ov):=by
 rw [DFr,if_pos rfl] at h; exact h
theorem df_mk11 (hp:¬ p) (hS:S ≤ W.heap.size) (zs:List Value) (hz:zs.length = 6) (t:TypeId):DFr vs S ov p (W.alloc (Obj.cells zs.toArray t)) 11 (ym W 0):=by
 rw [DFr,if_pos rfl]
 have:=(aT W zs t).t
 rw [hz] at this
 exact ⟨W.heap.size,rfl,hS,by simp,this,fun h=>absurd h hp⟩
theorem df_12:DFr vs S ov p W 12 v:=by rw [DFr,if_neg (by decide),if_pos rfl]; trivial
theorem df_grow:∀ p W W' j v,yl W W'→DFr vs S ov p W j v→DFr vs S ov p W' j v:=by
 intro p W W' j v hb h
 by_cases z:j = 11
 ·subst z
  obtain ⟨b,e,K,h3,h4,h5⟩:=df_11 h
  rw [DFr,if_pos rfl]
  exact ⟨b,e,K,yG h3 hb.size,zf h4 hb h3,fun hp=>zb (h5 hp) hb h3⟩
 ·by_cases K:j = 12
  ·subst K; exact df_12
  ·rw [DFr,if_neg z,if_neg K] at h ⊢; exact h
theorem df_store {b:Nat} (hov:ov.length = 6) (hS:S ≤ b) (xL:b < W.heap.size) (xG:W.there b 0 6) (uL:j = 11→v = I b 0) (h:DFr vs S ov False W j v):DFr vs S ov True (W.setCells b 0 ov) j v:=by
 by_cases z:j = 11
 ·subst z
  rw [DFr,if_pos rfl]
  exact ⟨b,uL rfl,hS,yG xL (cN b ov 0 W).size,yY xG b 0 ov,fun _=>yU _ _ _ _ (by rw [hov]; exact xG)⟩
 ·by_cases K:j = 12
  ·subst K; exact df_12
  ·rw [DFr,if_neg z,if_neg K] at h ⊢; exact h
end
theorem rdR_gr {W W':World} {v:Value} {l:List Od} {bb:Nat} (h:RdR Od.vs 6 W v l) (hg:W.grownBy W' (some bb)) (xA:∀ g,v.ownBlock = some g→g ≠ bb):RdR Od.vs 6 W' v l:=by
 obtain ⟨a,c,rfl,z,hc⟩:=h
 refine ⟨a,c,rfl,z,fun hl=>?_⟩
 obtain ⟨b,off,rfl,hb,hr⟩:=hc hl
 exact ⟨b,off,rfl,yG hb hg.size,fun i c hi=>zm (hr i c hi) hg hb (fun e=>xA b rfl (Option.some.inj e))⟩
theorem oth_three {s:Int} (h:s = 1 ∨ s = 2):othS s = 3 - s:=by rcases h with rfl | rfl <;> rfl
theorem fr_first {n:Int} {l:List Od} {s:Int} {o:Od} (xV:OkB n l) (hs:s = 1 ∨ s = 2) (hf:aD l (othS s) = some o):frRes n l (3 - s) = .tuple #[o.val,H 0]:=by
 rw [frRes,if_pos (okB_ok xV),← oth_three hs]
 have:(quOf (decide (othS s = 1)) (zn l (othS s))).head? = some o:=hf
 rw [this]
theorem priLaw (v:Value) (l:List Int) (w:World) (hr:Rd w v l) (hb:Bts l) (hl:l.length ≤ 1048576) :
  Calls Tryz.prog 4 #[v] w fun e w'=>e = yk (.bool true)∧yl w w':=by
 have HR:=Q hr
 have HBT:=Q hb
 obtain ⟨a,F,rfl,-,-⟩:=hr
 clear hb
 have hl':¬ ((1048576:Int) < l.length):=by omega
 go_enter Tryz.func4,Tryz.ntmps4
 go_wp2_with fail
 refine (scriptOf_any _ l w (M HR) (M HBT)).mono ?_
 rintro e w1 ⟨o,cs,rfl,htg,hn,xN,xR⟩
 obtain ⟨ao,co,rfl⟩:=own_sliceD xN
 have HC8:Hid (RdR Cm.vs 8 w1 (.slice ao cs.length co) cs):=bO (bc Cm.len (by omega) xN)
 have qU:Hid (∀ c ∈ cs,c.g.size ≤ maxLen):=fun c hc=>yK (htg c hc).1 (by unfold maxLen; omega)
 have xT:=Q xR
 have pT:=Q (okB_run cs (fun c hc=>(htg c hc).2))
 clear htg xN xR HR HBT
 have jH:Hid (yl w1 (w1.alloc (E #[H 1,.slice none 0 0] 28))):=eD _ _
 have HX9:=Q (aT w1 [H 1,.slice none 0 0] 28)
 go_wp2_with fail
 generalize (w1.alloc (E #[H 1,.slice none 0 0] 28)) = W9 at jH HX9 ⊢
 generalize Value.agg #[H 1,.slice none 0 0] = dH
 go_loopw [5] (fun i wr=>∃ (k:Nat) (vq:Value),k ≤ cs.length∧i = H k∧Hid (Bx wr w1.heap.size [H (runS (cs.take k)).n,vq])∧Hid (RdR Od.vs 6 wr vq (runS (cs.take k)).l)∧SlOk vq∧yl w1 wr) (fun i _=>cs.length - (intOf i).toNat)
 case atStart=>exact ⟨0,.slice none 0 0,Nat.zero_le _,rfl,M HX9,⟨none,0,rfl,by simp [runS],by simp [runS]⟩,.inl rfl,M jH⟩
 case round =>
  obtain ⟨k,vq,hk,rfl,vF,hrv,hsl,jp⟩:=hrel
  have HBL:=Q jp
  have uW:=Q hsl
  obtain ⟨av,cv,rfl,-⟩:=id (M hrv)
  have hb0:=zq (M vF) 0 rfl
  have xR:=zq (M vF) 1 rfl
  have hsb:w1.heap.size < wr.heap.size:=yH wr _ hb0
  clear jp hsl
  by_cases xL:k < cs.length
  ·obtain ⟨c,hc⟩:∃ c,cs[k]? = some c:=⟨_,yE xL⟩
   have jZ:(k:Int) < cs.length:=by omega
   have xV:=M pT k (by omega)
   have uH:=run_step cs hc
   have hok2:=M pT (k + 1) (by omega)
   have hgt:=M qU c (yL hc)
   obtain ⟨lb,lo,rfl,aw,vp⟩:∃ lb lo,ao = some (J lb lo)∧lb < w1.heap.size∧w1.rangeAt lb (lo + k * 8) c.vs:=by
    obtain ⟨a1,c1,e1,-,z⟩:=M HC8
    simp only [Value.slice.injEq,true_and] at e1
    obtain ⟨b,off,K,kj,h3⟩:=z (by intro h; rw [h] at hc; simp at hc)
    exact ⟨b,off,e1.1.trans K,kj,h3 k c hc⟩
   rw [uH] at hok2
   generalize runS (cs.take k) = s at vF hrv xV uH hok2 hb0 xR uW
   have HSP:Hid (∀ W,RdR Od.vs 6 W (.slice av s.l.length cv) s.l→Calls Tryz.prog 15 #[.agg #[H s.n,.slice av s.l.length cv],.agg (yu c.k c.s c.t c.l c.q c.i c.p c.g).toArray] W fun e w'=>∃ vq vg,e = yk (.tuple #[.agg #[H (stN s.n s.l c),vq],vg,H 0])∧ORow w' W.heap.size vq (stL s.n s.l c)∧ERow w' W.heap.size vg (stE s.n s.l c)∧yl W w'):=fun W hW=>by
    have h:=implStepBook_any s.n (.slice av s.l.length cv) s.l c W hW (M uW) (okB_tags xV) hgt
    rw [spN,spL,spE,reaC,if_pos (okB_ok xV),if_pos (okB_ok xV),if_pos (okB_ok xV),if_pos (okB_ok xV)] at h
    exact h
   have HSQ:Hid (∀ W,RdR Od.vs 6 W (.slice av s.l.length cv) s.l→Calls Tryz.prog 17 #[.agg #[H s.n,.slice av s.l.length cv],.agg (yu c.k c.s c.t c.l c.q c.i c.p c.g).toArray] W fun e w'=>∃ vq vg,e = yk (.tuple #[.agg #[H (stN s.n s.l c),vq],vg,H 0])∧ORow w' W.heap.size vq (stL s.n s.l c)∧ERow w' W.heap.size vg (stE s.n s.l c)∧yl W w'):=fun W hW=>by
    have h:=specStepBook_any s.n (.slice av s.l.length cv) s.l c W hW (M uW) (okB_tags xV) hgt
    rw [spN,spL,spE,reaC,if_pos (okB_ok xV),if_pos (okB_ok xV),if_pos (okB_ok xV),if_pos (okB_ok xV)] at h
    exact h
   have HTY:=Q (ty_all (c:=c) (n:=s.n) (dv xV))
   have HPR:=Q (pri_all (c:=c) xV)
   have HOK1:=Q xV
   have HOK2:Hid (OkB (stN s.n s.l c) (stL s.n s.l c)):=hok2
   have HST2:Hid (runS (cs.take (k + 1)) = ⟨stN s.n s.l c,stL s.n s.l c,_,_⟩):=uH
   clear xV hok2 uH hgt hc
   generalize stN s.n s.l c = mb at HSP HSQ HOK2 HST2
   generalize stL s.n s.l c = hj at HSP HSQ HOK2 HST2
   generalize stE s.n s.l c = eF at HSP HSQ HTY HPR HST2
   have kz:=Q vp
   clear vp
   have hEl:eF.length ≤ 100:=by obtain ⟨_,_,_,h,_⟩:=M HTY; exact h
   go_wp2_with fail
   clear hb0 xR
   have HREG:Hid (∀ V,yl wr V→V.cell? (yn w1 0) = some (H s.n)∧V.cell? (yn w1 1) = some (.slice av s.l.length cv)∧V.cell? (J lb (lo + k * 8)) = some (H c.k)∧V.cell? (J lb (lo + k * 8 + 1)) = some (H c.s)∧V.cell? (J lb (lo + k * 8 + 2)) = some (H c.t)∧V.cell? (J lb (lo + k * 8 + 3)) = some (H c.l)∧V.cell? (J lb (lo + k * 8 + 4)) = some (H c.q)∧V.cell? (J lb (lo + k * 8 + 5)) = some (H c.i)∧V.cell? (J lb (lo + k * 8 + 6)) = some (yh c.p)∧V.cell? (J lb (lo + k * 8 + 7)) = some (yi c.g)∧RdR Od.vs 6 V (.slice av s.l.length cv) s.l):=fun V hV=>by
    have hb:=zG (M vF) hV hsb
    obtain ⟨l0,l1,l2,l3,l4,l5,l6,l7⟩:=da (zb (M kz) (eG (M HBL) hV) aw)
    exact ⟨zq hb 0 rfl,zq hb 1 rfl,l0,l1,l2,l3,l4,l5,l6,l7,zh (M hrv) hV tg⟩
   refine zi (RG wr (fun f=>{ tmps:=#[.slice a l.length F,Z,u2,.slice (some (J lb lo)) cs.length co,ym w1 0,H k,f 10,f 12,f 13,u9,u10,u11,u12,u13,u14,u15,u16,u17,.slice a l.length F,H l.length,.bool false,.slice a l.length F,.slice (some (J lb lo)) cs.length co,dH,H k,.slice (some (J lb lo)) cs.length co,H cs.length,.bool true,u28,u29,f 6,f 0,f 1,f 2,f 3,f 4,f 5,f 7,f 8,f 9,u40,u41,u42,u43,u44,u45,u46,u47,u48,u49,u50,u51,u52,u53,u54,u55,u56,u57,u58,u59,u60,u61,u62,u63,u64,u65,u66,u67,u68,u69,u70,u71,u72,u73,u74,u75,u76,u77,u78,u79,u80,u81,u82,u83,u84,u85,u86,u87,u88,u89,u90,u91,u92,u93,u94,u95,u96,u97,u98,u99,u100,u101,u102,u103,u104,u105,u106,u107,u108,u109,u110,u111,u112,u113,u114,u115,u116,u117,u118,u119,u120,u121,u122,u123,u124,u125,u126,u127,u128,u129,u130,u131,u132,u133,u134,u135,u136,u137,u138,u139,u140,u141,u142,u143,u144,u145,u146,u147,u148,u149,u150,u151,u152,u153,u154,u155,u156,u157],defers:=[] }) 11 (DL [.agg #[H s.n,.slice av s.l.length cv],.slice (some (J lb lo)) cs.length co,H k,I lb (lo + k * 8),.agg (yu c.k c.s c.t c.l c.q c.i c.p c.g).toArray,Z,Z,Z,Z,H 0,Z,Z,Z,H 0] [(5,2),(6,2),(7,3),(8,4),(10,5),(11,9),(12,4)] wr.heap.size s.n mb 0 s.l hj eF)) (by kernel_rfl) ?_ ?_ ?_
   ·exact ⟨fun j=>if j = 0 then u31 else if j = 1 then u32 else if j = 2 then u33 else if j = 3 then u34 else if j = 4 then u35 else if j = 5 then u36 else if j = 6 then u30 else if j = 7 then u37 else if j = 8 then u38 else if j = 9 then u39 else if j = 10 then u6 else if j = 12 then u7 else if j = 13 then u8 else Z,rfl,⟨rfl,rfl,rfl,Nat.le_refl _,fun _ _=>rfl⟩,fun j L=>by rw [yF] at L; split at L <;> simp at L⟩
   rotate_left
   ·rintro x hR V i op ⟨f,rfl,xe,U⟩ xk hx Y xq D
    have xo:=Q xe
    have HD:=Q U
    obtain ⟨b0,b1,l0,l1,l2,l3,l4,l5,l6,l7,hrv'⟩:=M HREG V xe
    have oJ:=Q hrv'
    clear hrv'
    match i,Y with
    | 0,Y =>
     obtain rfl:=hD Y
     clear D U xe xk
     rw [if_pos (by rfl)];unfold Oper.wp;go_simp
     exact ⟨upd f 0 (.agg #[H s.n,.slice av s.l.length cv]),by simp [upd],zc (M xo) (M HD) (by decide) (bz rfl rfl)⟩
    | 1,Y =>
     obtain rfl:=hD Y
     clear D U xe xk
     rw [if_pos (by rfl)];unfold Oper.wp;go_simp
     exact ⟨upd f 1 (.slice (some (J lb lo)) cs.length co),by simp [upd],zc (M xo) (M HD) (by decide) (bz rfl rfl)⟩
    | 2,Y =>
     obtain rfl:=hD Y
     clear D U xe xk
     rw [if_pos (by rfl)];unfold Oper.wp;go_simp
     exact ⟨upd f 2 (H k),by simp [upd],zc (M xo) (M HD) (by decide) (bz rfl rfl)⟩
    | 3,Y =>
     obtain rfl:=hD Y
     have g1:f 1 = .slice (some (J lb lo)) cs.length co:=bA (U 1 (yc D 1 rfl)) rfl rfl
     have g2:f 2 = H k:=bA (U 2 (yc D 2 rfl)) rfl rfl
     clear D U xe xk
     rw [if_pos (by rfl)];unfold Oper.wp;go_simp
     exact ⟨upd f 3 (I lb (lo + k * 8)),by simp [upd,g1,g2],zc (M xo) (M HD) (by decide) (bz rfl rfl)⟩
    | 4,Y =>
     obtain rfl:=hD Y
     have g3:f 3 = I lb (lo + k * 8):=bA (U 3 (yc D 3 rfl)) rfl rfl
     clear D U xe xk
     rw [if_pos (by rfl)];unfold Oper.wp;go_simp
     exact ⟨upd f 4 (.agg (yu c.k c.s c.t c.l c.q c.i c.p c.g).toArray),by simp [upd,g3],zc (M xo) (M HD) (by decide) (bz rfl rfl)⟩
    | 5,Y =>
     obtain rfl:=hD Y
     have g0:f 0 = .agg #[H s.n,.slice av s.l.length cv]:=bA (U 0 (yc D 0 rfl)) rfl rfl
     have g4:f 4 = .agg (yu c.k c.s c.t c.l c.q c.i c.p c.g).toArray:=bA (U 4 (yc D 4 rfl)) rfl rfl
     have hS:=xe.size
     clear D U xe xk
     rw [if_pos (by rfl)];unfold Oper.wp;go_simp
     refine (M HSP V (M oJ)).mono ?_
     rintro e w4 ⟨vq,vg,rfl,ka,he4,xy⟩
     obtain ⟨vC,vD,rfl⟩:=zO ka
     obtain ⟨qn,qb,rfl⟩:=zO he4
     exact ⟨upd f 5 (.tuple #[.agg #[H mb,.slice vC hj.length vD],.slice qn eF.length qb,H 0]),by simp [upd,g0,g4],bP dl_grow (M xo) (M HD) xy (by decide) (dl_mk2 rfl ⟨vC,vD,qn,qb,rfl,zA ka hS,zA he4 hS⟩)⟩
    | 6,Y =>
     obtain rfl:=hD Y
     obtain ⟨vC,vD,qn,qb,g,K,h3⟩:=dl_2 (U 5 (yc D 5 rfl)) rfl
     have H2:=Q K
     have H3:=Q h3
     clear K h3
     clear D U xe xk
     rw [if_pos (by rfl)];unfold Oper.wp;go_simp
     exact ⟨upd f 6 (.tuple #[.agg #[H mb,.slice vC hj.length vD],.slice qn eF.length qb,H 0]),by simp [upd,g],zc (M xo) (M HD) (by decide) (dl_mk2 rfl ⟨vC,vD,qn,qb,rfl,M H2,M H3⟩)⟩
    | 7,Y =>
     obtain rfl:=hD Y
     obtain ⟨vC,vD,qn,qb,g,K,h3⟩:=dl_2 (U 6 (yc D 6 rfl)) rfl
     have H2:=Q K
     have H3:=Q h3
     clear K h3
     clear D U xe xk
     rw [if_pos (by rfl)];unfold Oper.wp;go_simp
     exact ⟨upd f 7 (.agg #[H mb,.slice vC hj.length vD]),by simp [upd,g],zc (M xo) (M HD) (by decide) (dl_mk3 rfl ⟨vC,vD,rfl,M H2⟩)⟩
    | 8,Y =>
     obtain rfl:=hD Y
     obtain ⟨vC,vD,qn,qb,g,K,h3⟩:=dl_2 (U 6 (yc D 6 rfl)) rfl
     have H2:=Q K
     have H3:=Q h3
     clear K h3
     clear D U xe xk
     rw [if_pos (by rfl)];unfold Oper.wp;go_simp
     exact ⟨upd f 8 (.slice qn eF.length qb),by simp [upd,g],zc (M xo) (M HD) (by decide) (dl_mk4 rfl ⟨qn,qb,rfl,M H3⟩)⟩
    | 9,Y =>
     obtain rfl:=hD Y
     obtain ⟨vC,vD,qn,qb,g,K,h3⟩:=dl_2 (U 6 (yc D 6 rfl)) rfl
     have H2:=Q K
     have H3:=Q h3
     clear K h3
     clear D U xe xk
     rw [if_pos (by rfl)];unfold Oper.wp;go_simp
     exact ⟨upd f 9 (H 0),by simp [upd,g],zc (M xo) (M HD) (by decide) (bz rfl rfl)⟩
    | 10,Y =>
     obtain rfl:=hD Y
     have hp:¬ x[11]? = some true:=by rw [zB xk 13 10 11 (by kernel_rfl) hx (by simp) xq]; simp
     have hS:=xe.size
     clear D U xe xk
     rw [if_pos (by rfl)];unfold Oper.wp;go_simp
     exact ⟨upd f 10 (ym V 0),by simp [upd],bP dl_grow (M xo) (M HD) (eD _ _) (by decide) (dl_mk5 rfl hp hS)⟩
    | 11,Y =>
     obtain rfl:=hD Y
     obtain ⟨vC,vD,g7,qM⟩:=dl_3 (U 7 (yc D 7 rfl)) rfl
     obtain ⟨b,vP,oM,hltb,xG,hbx2,-⟩:=dl_5 (U 10 (yc D 10 rfl)) rfl
     have ux:Hid (∀ j,j ≠ 11→x[j]? = some true→DL [.agg #[H s.n,.slice av s.l.length cv],.slice (some (J lb lo)) cs.length co,H k,I lb (lo + k * 8),.agg (yu c.k c.s c.t c.l c.q c.i c.p c.g).toArray,Z,Z,Z,Z,H 0,Z,Z,Z,H 0] [(5,2),(6,2),(7,3),(8,4),(10,5),(11,9),(12,4)] wr.heap.size s.n mb 0 s.l hj eF False V j (f j)→DL [.agg #[H s.n,.slice av s.l.length cv],.slice (some (J lb lo)) cs.length co,H k,I lb (lo + k * 8),.agg (yu c.k c.s c.t c.l c.q c.i c.p c.g).toArray,Z,Z,Z,Z,H 0,Z,Z,Z,H 0] [(5,2),(6,2),(7,3),(8,4),(10,5),(11,9),(12,4)] wr.heap.size s.n mb 0 s.l hj eF True (V.setCells b 0 [H mb,.slice vC hj.length vD]) j (f j)):=fun j L hxj h=>dl_store oM xG hltb hbx2 qM (fun h5=>by
      have:=look_only h5 (i:=10) (by decide)
      rw [this]; exact vP) h
     have xW:=Q (zu b oM [H mb,.slice vC hj.length vD] 0 _ xe)
     obtain ⟨p0,x0,f0⟩:=zd xG (j:=0) (by omega)
     obtain ⟨p1,x1,f1⟩:=zd xG (j:=1) (by omega)
     clear D U xe xk xG hbx2 qM
     rw [if_pos (by rfl)];unfold Oper.wp;go_simp
     exact ⟨f,by simp [g7,vP],rg_write2 (M xW) (M HD) xq (M ux) (dl_mk9 rfl)⟩
    | 12,Y =>
     obtain rfl:=hD Y
     obtain ⟨qn,qb,g,h3⟩:=dl_4 (U 8 (yc D 8 rfl)) rfl
     have H3:=Q h3
     clear h3
     clear D U xe xk
     rw [if_pos (by rfl)];unfold Oper.wp;go_simp
     exact ⟨upd f 12 (.slice qn eF.length qb),by simp [upd,g],zc (M xo) (M HD) (by decide) (dl_mk4 rfl ⟨qn,qb,rfl,M H3⟩)⟩
    | 13,Y =>
     obtain rfl:=hD Y
     have g9:f 9 = H 0:=bA (U 9 (yc D 9 rfl)) rfl rfl
     clear D U xe xk
     rw [if_pos (by rfl)];unfold Oper.wp;go_simp
     exact ⟨upd f 13 (H 0),by simp [upd,g9],zc (M xo) (M HD) (by decide) (bz rfl rfl)⟩
    | n + 14,Y=>simp at Y
   ·rintro x hR V ⟨f,rfl,xe,U⟩ hx xK
    have xm:=zL xK hx (by kernel_rfl)
    obtain ⟨qn,qb,e12,py⟩:=dl_4 (U 12 (xm 12 (by simp))) rfl
    have oe:f 13 = H 0:=bA (U 13 (xm 13 (by simp))) rfl rfl
    obtain ⟨bn,jz,hSn,hltn,hthn,-,hstn⟩:=dl_5 (U 10 (xm 10 (by simp))) rfl
    obtain ⟨vC,vD,hran,kJ⟩:=hstn (xm 11 (by simp))
    simp only [e12,oe,jz]
    have HVW1:Hid (yl w1 V):=(M HBL).trans (xe.mono (M HBL).size)
    have HBN1:Hid (Bx V bn [H mb,.slice vC hj.length vD]):=⟨hran,hthn⟩
    have HBB1:=Q (zG (M vF) xe hsb)
    have HRB1:=Q (zh (M hrv) xe tg)
    have HRN1:Hid (RdR Od.vs 6 V (.slice vC hj.length vD) hj):=bO (bc Od.len (by have:=(M HOK2).len; omega) kJ)
    have hsn:SlOk (.slice vC hj.length vD):=cD kJ
    have HNB:Hid (∀ g,(Value.slice vC hj.length vD).ownBlock = some g→w1.heap.size < g):=fun g hg=>by have:=(kJ.lt g hg).1; have:=hsb; omega
    have HRE1:Hid (RdR Ev.vs 14 V (.slice qn eF.length qb) eF):=bO (bc Ev.len (by omega) py)
    have HNE:Hid (∀ g,(Value.slice qn eF.length qb).ownBlock = some g→w1.heap.size < g):=fun g hg=>by have:=(py.lt g hg).1; have:=hsb; omega
    have hbn1:w1.heap.size < bn∧bn < V.heap.size:=⟨by have:=hsb; omega,hltn⟩
    have S1:w1.heap.size < V.heap.size:=yG hsb xe.size
    have HKP1:Hid (yl wr V):=xe
    clear U xm xK hx hran hthn hstn kJ py jz e12 oe xe hSn hltn HREG
    generalize f 0 = tq0,f 1 = tq1,f 2 = tq2,f 3 = tq3,f 4 = tq4,f 5 = tq5,f 6 = tq6,f 7 = tq7,f 8 = tq8,f 9 = tq9
    clear HKP1
    generalize vQ:V = V1 at *
    clear vQ
    clear hrv vF
    obtain ⟨b0,b1,l0,l1,l2,l3,l4,l5,l6,l7,-⟩:_∧_∧_∧_∧_∧_∧_∧_∧_∧_∧True:=by
     have hb:=M HBB1
     obtain ⟨l0,l1,l2,l3,l4,l5,l6,l7⟩:=da (zb (M kz) (M HVW1) aw)
     exact ⟨zq hb 0 rfl,zq hb 1 rfl,l0,l1,l2,l3,l4,l5,l6,l7,trivial⟩
    go_wp2_with fail
    clear b0 b1 l0 l1 l2 l3 l4 l5 l6 l7
    have HREG:Hid (∀ V,yl V1 V→V.cell? (yn w1 0) = some (H s.n)∧V.cell? (yn w1 1) = some (.slice av s.l.length cv)∧V.cell? (J lb (lo + k * 8)) = some (H c.k)∧V.cell? (J lb (lo + k * 8 + 1)) = some (H c.s)∧V.cell? (J lb (lo + k * 8 + 2)) = some (H c.t)∧V.cell? (J lb (lo + k * 8 + 3)) = some (H c.l)∧V.cell? (J lb (lo + k * 8 + 4)) = some (H c.q)∧V.cell? (J lb (lo + k * 8 + 5)) = some (H c.i)∧V.cell? (J lb (lo + k * 8 + 6)) = some (yh c.p)∧V.cell? (J lb (lo + k * 8 + 7)) = some (yi c.g)∧RdR Od.vs 6 V (.slice av s.l.length cv) s.l):=fun V hV=>by
     have hb:=zG (M HBB1) hV S1
     obtain ⟨l0,l1,l2,l3,l4,l5,l6,l7⟩:=da (zb (M kz) (eG (M HVW1) hV) aw)
     exact ⟨zq hb 0 rfl,zq hb 1 rfl,l0,l1,l2,l3,l4,l5,l6,l7,zh (M HRB1) hV tg⟩
    refine zi (RG V1 (fun f=>{ tmps:=#[.slice a l.length F,Z,u2,.slice (some (J lb lo)) cs.length co,ym w1 0,H k,I bn 0,.slice qn eF.length qb,H 0,f 10,f 12,f 13,u12,u13,u14,u15,u16,u17,.slice a l.length F,H l.length,.bool false,.slice a l.length F,.slice (some (J lb lo)) cs.length co,dH,H k,.slice (some (J lb lo)) cs.length co,H cs.length,.bool true,u28,u29,tq6,tq0,tq1,tq2,tq3,tq4,tq5,tq7,tq8,tq9,f 6,f 0,f 1,f 2,f 3,f 4,f 5,f 7,f 8,f 9,u50,u51,u52,u53,u54,u55,u56,u57,u58,u59,u60,u61,u62,u63,u64,u65,u66,u67,u68,u69,u70,u71,u72,u73,u74,u75,u76,u77,u78,u79,u80,u81,u82,u83,u84,u85,u86,u87,u88,u89,u90,u91,u92,u93,u94,u95,u96,u97,u98,u99,u100,u101,u102,u103,u104,u105,u106,u107,u108,u109,u110,u111,u112,u113,u114,u115,u116,u117,u118,u119,u120,u121,u122,u123,u124,u125,u126,u127,u128,u129,u130,u131,u132,u133,u134,u135,u136,u137,u138,u139,u140,u141,u142,u143,u144,u145,u146,u147,u148,u149,u150,u151,u152,u153,u154,u155,u156,u157],defers:=[] }) 11 (DL [.agg #[H s.n,.slice av s.l.length cv],.slice (some (J lb lo)) cs.length co,H k,I lb (lo + k * 8),.agg (yu c.k c.s c.t c.l c.q c.i c.p c.g).toArray,Z,Z,Z,Z,H 0,Z,Z,Z,H 0] [(5,2),(6,2),(7,3),(8,4),(10,5),(11,9),(12,4)] V1.heap.size s.n mb 0 s.l hj eF)) (by kernel_rfl) ?_ ?_ ?_
    ·exact ⟨fun j=>if j = 0 then u41 else if j = 1 then u42 else if j = 2 then u43 else if j = 3 then u44 else if j = 4 then u45 else if j = 5 then u46 else if j = 6 then u40 else if j = 7 then u47 else if j = 8 then u48 else if j = 9 then u49 else if j = 10 then u9 else if j = 12 then u10 else if j = 13 then u11 else Z,rfl,⟨rfl,rfl,rfl,Nat.le_refl _,fun _ _=>rfl⟩,fun j L=>by rw [yF] at L; split at L <;> simp at L⟩
    rotate_left
    ·rintro x hR V i op ⟨f,rfl,xe,U⟩ xk hx Y xq D
     have xo:=Q xe
     have HD:=Q U
     obtain ⟨b0,b1,l0,l1,l2,l3,l4,l5,l6,l7,hrv'⟩:=M HREG V xe
     have oJ:=Q hrv'
     clear hrv'
     match i,Y with
     | 0,Y =>
      obtain rfl:=hD Y
      clear D U xe xk
      rw [if_pos (by rfl)];unfold Oper.wp;go_simp
      exact ⟨upd f 0 (.agg #[H s.n,.slice av s.l.length cv]),by simp [upd],zc (M xo) (M HD) (by decide) (bz rfl rfl)⟩
     | 1,Y =>
      obtain rfl:=hD Y
      clear D U xe xk
      rw [if_pos (by rfl)];unfold Oper.wp;go_simp
      exact ⟨upd f 1 (.slice (some (J lb lo)) cs.length co),by simp [upd],zc (M xo) (M HD) (by decide) (bz rfl rfl)⟩
     | 2,Y =>
      obtain rfl:=hD Y
      clear D U xe xk
      rw [if_pos (by rfl)];unfold Oper.wp;go_simp
      exact ⟨upd f 2 (H k),by simp [upd],zc (M xo) (M HD) (by decide) (bz rfl rfl)⟩
     | 3,Y =>
      obtain rfl:=hD Y
      have g1:f 1 = .slice (some (J lb lo)) cs.length co:=bA (U 1 (yc D 1 rfl)) rfl rfl
      have g2:f 2 = H k:=bA (U 2 (yc D 2 rfl)) rfl rfl
      clear D U xe xk
      rw [if_pos (by rfl)];unfold Oper.wp;go_simp
      exact ⟨upd f 3 (I lb (lo + k * 8)),by simp [upd,g1,g2],zc (M xo) (M HD) (by decide) (bz rfl rfl)⟩
     | 4,Y =>
      obtain rfl:=hD Y
      have g3:f 3 = I lb (lo + k * 8):=bA (U 3 (yc D 3 rfl)) rfl rfl
      clear D U xe xk
      rw [if_pos (by rfl)];unfold Oper.wp;go_simp
      exact ⟨upd f 4 (.agg (yu c.k c.s c.t c.l c.q c.i c.p c.g).toArray),by simp [upd,g3],zc (M xo) (M HD) (by decide) (bz rfl rfl)⟩
     | 5,Y =>
      obtain rfl:=hD Y
      have g0:f 0 = .agg #[H s.n,.slice av s.l.length cv]:=bA (U 0 (yc D 0 rfl)) rfl rfl
      have g4:f 4 = .agg (yu c.k c.s c.t c.l c.q c.i c.p c.g).toArray:=bA (U 4 (yc D 4 rfl)) rfl rfl
      have hS:=xe.size
      clear D U xe xk
      rw [if_pos (by rfl)];unfold Oper.wp;go_simp
      refine (M HSQ V (M oJ)).mono ?_
      rintro e w4 ⟨vq,vg,rfl,ka,he4,xy⟩
      obtain ⟨vC,vD,rfl⟩:=zO ka
      obtain ⟨qn,qb,rfl⟩:=zO he4
      exact ⟨upd f 5 (.tuple #[.agg #[H mb,.slice vC hj.length vD],.slice qn eF.length qb,H 0]),by simp [upd,g0,g4],bP dl_grow (M xo) (M HD) xy (by decide) (dl_mk2 rfl ⟨vC,vD,qn,qb,rfl,zA ka hS,zA he4 hS⟩)⟩
     | 6,Y =>
      obtain rfl:=hD Y
      obtain ⟨vC,vD,qn,qb,g,K,h3⟩:=dl_2 (U 5 (yc D 5 rfl)) rfl
      have H2:=Q K
      have H3:=Q h3
      clear K h3
      clear D U xe xk
      rw [if_pos (by rfl)];unfold Oper.wp;go_simp
      exact ⟨upd f 6 (.tuple #[.agg #[H mb,.slice vC hj.length vD],.slice qn eF.length qb,H 0]),by simp [upd,g],zc (M xo) (M HD) (by decide) (dl_mk2 rfl ⟨vC,vD,qn,qb,rfl,M H2,M H3⟩)⟩
     | 7,Y =>
      obtain rfl:=hD Y
      obtain ⟨vC,vD,qn,qb,g,K,h3⟩:=dl_2 (U 6 (yc D 6 rfl)) rfl
      have H2:=Q K
      have H3:=Q h3
      clear K h3
      clear D U xe xk
      rw [if_pos (by rfl)];unfold Oper.wp;go_simp
      exact ⟨upd f 7 (.agg #[H mb,.slice vC hj.length vD]),by simp [upd,g],zc (M xo) (M HD) (by decide) (dl_mk3 rfl ⟨vC,vD,rfl,M H2⟩)⟩
     | 8,Y =>
      obtain rfl:=hD Y
      obtain ⟨vC,vD,qn,qb,g,K,h3⟩:=dl_2 (U 6 (yc D 6 rfl)) rfl
      have H2:=Q K
      have H3:=Q h3
      clear K h3
      clear D U xe xk
      rw [if_pos (by rfl)];unfold Oper.wp;go_simp
      exact ⟨upd f 8 (.slice qn eF.length qb),by simp [upd,g],zc (M xo) (M HD) (by decide) (dl_mk4 rfl ⟨qn,qb,rfl,M H3⟩)⟩
     | 9,Y =>
      obtain rfl:=hD Y
      obtain ⟨vC,vD,qn,qb,g,K,h3⟩:=dl_2 (U 6 (yc D 6 rfl)) rfl
      have H2:=Q K
      have H3:=Q h3
      clear K h3
      clear D U xe xk
      rw [if_pos (by rfl)];unfold Oper.wp;go_simp
      exact ⟨upd f 9 (H 0),by simp [upd,g],zc (M xo) (M HD) (by decide) (bz rfl rfl)⟩
     | 10,Y =>
      obtain rfl:=hD Y
      have hp:¬ x[11]? = some true:=by rw [zB xk 13 10 11 (by kernel_rfl) hx (by simp) xq]; simp
      have hS:=xe.size
      clear D U xe xk
      rw [if_pos (by rfl)];unfold Oper.wp;go_simp
      exact ⟨upd f 10 (ym V 0),by simp [upd],bP dl_grow (M xo) (M HD) (eD _ _) (by decide) (dl_mk5 rfl hp hS)⟩
     | 11,Y =>
      obtain rfl:=hD Y
      obtain ⟨vC,vD,g7,qM⟩:=dl_3 (U 7 (yc D 7 rfl)) rfl
      obtain ⟨b,vP,oM,hltb,xG,hbx2,-⟩:=dl_5 (U 10 (yc D 10 rfl)) rfl
      have ux:Hid (∀ j,j ≠ 11→x[j]? = some true→DL [.agg #[H s.n,.slice av s.l.length cv],.slice (some (J lb lo)) cs.length co,H k,I lb (lo + k * 8),.agg (yu c.k c.s c.t c.l c.q c.i c.p c.g).toArray,Z,Z,Z,Z,H 0,Z,Z,Z,H 0] [(5,2),(6,2),(7,3),(8,4),(10,5),(11,9),(12,4)] V1.heap.size s.n mb 0 s.l hj eF False V j (f j)→DL [.agg #[H s.n,.slice av s.l.length cv],.slice (some (J lb lo)) cs.length co,H k,I lb (lo + k * 8),.agg (yu c.k c.s c.t c.l c.q c.i c.p c.g).toArray,Z,Z,Z,Z,H 0,Z,Z,Z,H 0] [(5,2),(6,2),(7,3),(8,4),(10,5),(11,9),(12,4)] V1.heap.size s.n mb 0 s.l hj eF True (V.setCells b 0 [H mb,.slice vC hj.length vD]) j (f j)):=fun j L hxj h=>dl_store oM xG hltb hbx2 qM (fun h5=>by
       have:=look_only h5 (i:=10) (by decide)
       rw [this]; exact vP) h
      have xW:=Q (zu b oM [H mb,.slice vC hj.length vD] 0 _ xe)
      obtain ⟨p0,x0,f0⟩:=zd xG (j:=0) (by omega)
      obtain ⟨p1,x1,f1⟩:=zd xG (j:=1) (by omega)
      clear D U xe xk xG hbx2 qM
      rw [if_pos (by rfl)];unfold Oper.wp;go_simp
      exact ⟨f,by simp [g7,vP],rg_write2 (M xW) (M HD) xq (M ux) (dl_mk9 rfl)⟩
     | 12,Y =>
      obtain rfl:=hD Y
      obtain ⟨qn,qb,g,h3⟩:=dl_4 (U 8 (yc D 8 rfl)) rfl
      have H3:=Q h3
      clear h3
      clear D U xe xk
      rw [if_pos (by rfl)];unfold Oper.wp;go_simp
      exact ⟨upd f 12 (.slice qn eF.length qb),by simp [upd,g],zc (M xo) (M HD) (by decide) (dl_mk4 rfl ⟨qn,qb,rfl,M H3⟩)⟩
     | 13,Y =>
      obtain rfl:=hD Y
      have g9:f 9 = H 0:=bA (U 9 (yc D 9 rfl)) rfl rfl
      clear D U xe xk
      rw [if_pos (by rfl)];unfold Oper.wp;go_simp
      exact ⟨upd f 13 (H 0),by simp [upd,g9],zc (M xo) (M HD) (by decide) (bz rfl rfl)⟩
     | n + 14,Y=>simp at Y
    ·rintro x hR V ⟨f,rfl,xe,U⟩ hx xK
     have xm:=zL xK hx (by kernel_rfl)
     obtain ⟨ag4,cg4,e12,py⟩:=dl_4 (U 12 (xm 12 (by simp))) rfl
     have oe:f 13 = H 0:=bA (U 13 (xm 13 (by simp))) rfl rfl
     obtain ⟨bm,jz,hSn,hltn,hthn,-,hstn⟩:=dl_5 (U 10 (xm 10 (by simp))) rfl
     obtain ⟨aq4,cq4,hran,kJ⟩:=hstn (xm 11 (by simp))
     simp only [e12,oe,jz]
     have HVW2:Hid (yl w1 V):=(M HVW1).trans (xe.mono (M HVW1).size)
     have HBM2:Hid (Bx V bm [H mb,.slice aq4 hj.length cq4]):=⟨hran,hthn⟩
     have HBB2:=Q (zG (M HBB1) xe S1)
     have HRB2:=Q (zh (M HRB1) xe tg)
     have HRM2:Hid (RdR Od.vs 6 V (.slice aq4 hj.length cq4) hj):=bO (bc Od.len (by have:=(M HOK2).len; omega) kJ)
     have hsm:SlOk (.slice aq4 hj.length cq4):=cD kJ
     have HNB2:Hid (∀ g,(Value.slice aq4 hj.length cq4).ownBlock = some g→w1.heap.size < g):=fun g hg=>by have:=(kJ.lt g hg).1; have:=S1; omega
     have HRF2:Hid (RdR Ev.vs 14 V (.slice ag4 eF.length cg4) eF):=bO (bc Ev.len (by omega) py)
     have HNF:Hid (∀ g,(Value.slice ag4 eF.length cg4).ownBlock = some g→w1.heap.size < g):=fun g hg=>by have:=(py.lt g hg).1; have:=S1; omega
     have hbm2:w1.heap.size < bm∧bm < V.heap.size:=⟨by have:=S1; omega,hltn⟩
     have S2:w1.heap.size < V.heap.size:=yG S1 xe.size
     have HKP2:Hid (yl V1 V):=xe
     clear U xm xK hx hran hthn hstn kJ py jz e12 oe xe hSn hltn HREG
     generalize f 0 = tp0,f 1 = tp1,f 2 = tp2,f 3 = tp3,f 4 = tp4,f 5 = tp5,f 6 = tp6,f 7 = tp7,f 8 = tp8,f 9 = tp9
     have HBN2:=Q (zG (M HBN1) (M HKP2) hbn1.2)
     have HRN2:=Q (zh (M HRN1) (M HKP2) tg)
     have HRE2:=Q (zh (M HRE1) (M HKP2) tg)
     have hbn2:bn < V.heap.size:=yG hbn1.2 (M HKP2).size
     clear HBN1 HRN1 HRE1 HKP2 HBB1 HRB1 HVW1
     go_wp2_with fail
     refine (smEvents_same _ _ eF V (M HRE2) (M HRF2)).mono ?_
     rintro e V2 ⟨rfl,hv2⟩
     have HV2:=Q hv2
     have n0:=zq (zG (M HBN2) hv2 hbn2) 0 rfl
     have n1:=zq (zG (M HBN2) hv2 hbn2) 1 rfl
     have m0:=zq (zG (M HBM2) hv2 hbm2.2) 0 rfl
     have m1:=zq (zG (M HBM2) hv2 hbm2.2) 1 rfl
     clear hv2
     go_wp2_with fail
     refine (smBook_same mb _ _ hj V2 (zh (M HRN2) (M HV2) tg) (zh (M HRM2) (M HV2) tg)).mono ?_
     rintro e V3 ⟨rfl,hv3⟩
     have HV3:=Q (eG (M HV2) hv3)
     clear hv3 n0 n1 m0 m1 HV2
     have HRE3:=Q (zh (M HRE2) (M HV3) tg)
     have HBN3:=Q (zG (M HBN2) (M HV3) hbn2)
     have HRN3:=Q (zh (M HRN2) (M HV3) tg)
     have HBB3:=Q (zG (M HBB2) (M HV3) S2)
     have HRB3:=Q (zh (M HRB2) (M HV3) tg)
     have HVW3:=Q ((M HVW2).trans ((M HV3).mono (M HVW2).size))
     have hbn3:bn < V3.heap.size:=yG hbn2 (M HV3).size
     have hS3:w1.heap.size < V3.heap.size:=yG S2 (M HV3).size
     clear HRE2 HBN2 HRN2 HBB2 HRB2 HVW2 HBM2 HRM2 HRF2 HV3 HSP HSQ
     have h1E:1 ≤ eF.length:=by obtain ⟨_,_,h,_,_⟩:=M HTY; rw [h]; simp
     go_wp2_with fail
     go_loopw [12] (fun kv wq=>∃ (j:Nat) (lj:List Od) (vj:Value),1 ≤ j∧j ≤ eF.length∧kv = H j∧Hid (Bx wq w1.heap.size [H s.n,vj])∧Hid (RdR Od.vs 6 wq vj lj)∧SlOk vj∧Hid (OkB s.n lj)∧Hid (Pri c (eF.drop j) lj)∧Hid (V3.grownBy wq (some w1.heap.size))) (fun kv _=>eF.length - (intOf kv).toNat)
     case atStart=>exact ⟨1,s.l,.slice av s.l.length cv,Nat.le_refl _,h1E,rfl,M HBB3,M HRB3,M uW,M HOK1,M HPR,yO _ _⟩
     case round =>
      obtain ⟨j,lj,vj,hj1,L,rfl,hbj,hrj,hsj,hoj,hpj,hgj⟩:=hrel
      obtain ⟨aj,cj,rfl,-⟩:=id (M hrj)
      have hb0:=zq (M hbj) 0 rfl
      have xR:=zq (M hbj) 1 rfl
      have hlw:w1.heap.size < wr.heap.size:=yH wr _ hb0
      by_cases hjl:j < eF.length
      ·obtain ⟨x,hx⟩:∃ x,eF[j]? = some x:=⟨_,yE hjl⟩
       have jW:eF.drop j = x :: eF.drop (j + 1):=by rw [yZ hjl,(yD.1 hx).2]
       rw [jW] at hpj
       have hjl':(j:Int) < eF.length:=by omega
       obtain ⟨eb,eo,rfl,hxw⟩:∃ eb eo,qn = some (J eb eo)∧wr.rangeAt eb (eo + j * 14) x.vs:=by
        obtain ⟨a1,c1,e1,-,z⟩:=M HRE3
        simp only [Value.slice.injEq,true_and] at e1
        obtain ⟨b,off,K,kj,h3⟩:=z (by intro h; rw [h] at hx; simp at hx)
        refine ⟨b,off,e1.1.trans K,zm (h3 j x hx) (M hgj) kj (fun e=>?_)⟩
        have:=M HNE b (by rw [e1.1,K]; rfl)
        have:=Option.some.inj e
        omega
       obtain ⟨g0,g1,g2,g3,g4,g5,g6,g7,g8,g9,vP,vr,xX,kE⟩:=ev_cells hxw
       have jf:Hid ((wr.alloc (E (ys 0 0 0 0 0 0 0 0 ⟨#[]⟩ 0 0 0 0 0).toArray 46)).there wr.heap.size 0 14):=(aT wr (ys 0 0 0 0 0 0 0 0 ⟨#[]⟩ 0 0 0 0 0) 46).t
       have uS:Hid (yl wr ((wr.alloc (E (ys 0 0 0 0 0 0 0 0 ⟨#[]⟩ 0 0 0 0 0).toArray 46)).setCells wr.heap.size 0 (ys x.kind x.cmd.k x.cmd.s x.cmd.t x.cmd.l x.cmd.q x.cmd.i x.cmd.p x.cmd.g x.id x.other x.qty x.price x.reason))):=zu wr.heap.size tg (ys x.kind x.cmd.k x.cmd.s x.cmd.t x.cmd.l x.cmd.q x.cmd.i x.cmd.p x.cmd.g x.id x.other x.qty x.price x.reason) 0 _ (eD _ _)
       have pm:Hid (Bx ((wr.alloc (E (ys 0 0 0 0 0 0 0 0 ⟨#[]⟩ 0 0 0 0 0).toArray 46)).setCells wr.heap.size 0 (ys x.kind x.cmd.k x.cmd.s x.cmd.t x.cmd.l x.cmd.q x.cmd.i x.cmd.p x.cmd.g x.id x.other x.qty x.price x.reason)) wr.heap.size (ys x.kind x.cmd.k x.cmd.s x.cmd.t x.cmd.l x.cmd.q x.cmd.i x.cmd.p x.cmd.g x.id x.other x.qty x.price x.reason)):=⟨yU _ _ _ _ (M jf),yY (M jf) _ _ _⟩
       have a0:((wr.alloc (E (ys 0 0 0 0 0 0 0 0 ⟨#[]⟩ 0 0 0 0 0).toArray 46)).setCells wr.heap.size 0 (ys x.kind x.cmd.k x.cmd.s x.cmd.t x.cmd.l x.cmd.q x.cmd.i x.cmd.p x.cmd.g x.id x.other x.qty x.price x.reason)).cell? (yn wr 0) = some (H x.kind):=zq (M pm) 0 rfl
       clear hx jW hxw
       by_cases hk3:x.kind = 3
       ·rcases M hpj with ⟨h,-⟩ | ⟨-,o,i,hf,hi,hoi,hot,qy,hq2,hs,hlim,hpn⟩
        ·exact absurd hk3 h
        have hk3':(x.kind != 3) = false:=by simpa using hk3
        have HFR:=Q (fr_first (M hoj) hs hf)
        have hoL:=bZ ((M hoj).ord o (yL hi))
        have HHI:=Q (hitF_at (dv (M hoj)) hi qy hq2)
        rw [hoi] at HHI
        have HOJ2:=Q (okB_hit (M hoj) hi (by omega) hq2)
        have HPN:=Q hpn
        have hw3:IntKind.i64.wrap (3 - c.s) = 3 - c.s:=by rw [IntKind.wrap_i64]; omega
        have HLM:=Q hlim
        have HHO:=Q (And.intro hoi hot)
        clear hpj hf hi hlim hpn hk3 hoi hot
        repeat (first | (refine wpList_store_mid rfl 46 (.tmp 13) (.tmp 73) rfl wr.heap.size 0 (ys x.kind x.cmd.k x.cmd.s x.cmd.t x.cmd.l x.cmd.q x.cmd.i x.cmd.p x.cmd.g x.id x.other x.qty x.price x.reason).toArray rfl rfl (M jf) (by kernel_rfl) (by simp [Value.oneCell']) ?_; change wpList _ _ _ _ _ ((wr.alloc (E (ys 0 0 0 0 0 0 0 0 ⟨#[]⟩ 0 0 0 0 0).toArray 46)).setCells wr.heap.size 0 (ys x.kind x.cmd.k x.cmd.s x.cmd.t x.cmd.l x.cmd.q x.cmd.i x.cmd.p x.cmd.g x.id x.other x.qty x.price x.reason)); generalize ((wr.alloc (E (ys 0 0 0 0 0 0 0 0 ⟨#[]⟩ 0 0 0 0 0).toArray 46)).setCells wr.heap.size 0 (ys x.kind x.cmd.k x.cmd.s x.cmd.t x.cmd.l x.cmd.q x.cmd.i x.cmd.p x.cmd.g x.id x.other x.qty x.price x.reason)) = WA at pm uS a0 ⊢) | go_step)
        have HLA:Hid (wr.heap.size < WA.heap.size):=yH WA _ a0
        have HXB:=Q (zG (M hbj) (M uS) hlw)
        have HRJ:=Q (zh (M hrj) (M uS) tg)
        have hlA:w1.heap.size < WA.heap.size:=yG hlw (M uS).size
        have HGA:Hid (V3.grownBy WA (some w1.heap.size)):=zQ (M hgj) (zU (M uS) tg)
        clear g0 g1 g2 g3 g4 g5 g6 g7 g8 g9 vP vr xX kE a0 hb0 xR uS jf
        refine zi (RG WA (fun f=>{ tmps:=#[.slice a l.length F,Z,u2,.slice (some (J lb lo)) cs.length co,ym w1 0,H k,I bn 0,.slice (some (J eb eo)) eF.length qb,H 0,I bm 0,.slice ag4 eF.length cg4,H 0,H j,ym wr 0,f 11,f 13,u16,u17,.slice a l.length F,H l.length,.bool false,.slice a l.length F,.slice (some (J lb lo)) cs.length co,dH,H k,.slice (some (J lb lo)) cs.length co,H cs.length,.bool true,u28,u29,tq6,tq0,tq1,tq2,tq3,tq4,tq5,tq7,tq8,tq9,tp6,tp0,tp1,tp2,tp3,tp4,tp5,tp7,tp8,tp9,H 0,.bool false,.bool false,.slice (some (J eb eo)) eF.length qb,.slice ag4 eF.length cg4,.bool true,.bool false,.bool false,.bool false,.agg #[H mb,.slice vC hj.length vD],.agg #[H mb,.slice aq4 hj.length cq4],.bool true,.bool false,.bool false,H j,.slice (some (J eb eo)) eF.length qb,H eF.length,.bool true,u68,u69,.slice (some (J eb eo)) eF.length qb,H j,I eb (eo + j * 14),.agg (ys x.kind x.cmd.k x.cmd.s x.cmd.t x.cmd.l x.cmd.q x.cmd.i x.cmd.p x.cmd.g x.id x.other x.qty x.price x.reason).toArray,ym wr 0,H x.kind,.bool false,f 8,f 0,f 1,f 2,f 3,f 4,f 5,f 6,f 7,f 9,f 10,u88,u89,u90,u91,u92,u93,u94,u95,u96,u97,u98,u99,u100,u101,u102,u103,u104,u105,u106,u107,u108,u109,u110,u111,u112,u113,u114,u115,u116,u117,u118,u119,u120,u121,u122,u123,u124,u125,u126,u127,u128,u129,u130,u131,u132,u133,u134,u135,u136,u137,u138,u139,u140,u141,u142,u143,u144,u145,u146,u147,u148,u149,u150,u151,u152,u153,u154,u155,u156,u157],defers:=[] }) 12 (DFr [.agg #[H s.n,.slice aj lj.length cj],.slice (some (J lb lo)) cs.length co,H k,I lb (lo + k * 8),I lb (lo + k * 8 + 1),H c.s,H (3 - c.s),.tuple #[.agg (yt o.id o.side o.ticks o.left o.life o.tag).toArray,H 0],.tuple #[.agg (yt o.id o.side o.ticks o.left o.life o.tag).toArray,H 0],.agg (yt o.id o.side o.ticks o.left o.life o.tag).toArray,H 0,Z,Z,H 0] WA.heap.size (yt o.id o.side o.ticks o.left o.life o.tag))) (by kernel_rfl) ?_ ?_ ?_
        ·exact ⟨fun j=>if j = 0 then u78 else if j = 1 then u79 else if j = 2 then u80 else if j = 3 then u81 else if j = 4 then u82 else if j = 5 then u83 else if j = 6 then u84 else if j = 7 then u85 else if j = 8 then u77 else if j = 9 then u86 else if j = 10 then u87 else if j = 11 then u14 else if j = 13 then u15 else Z,rfl,⟨rfl,rfl,rfl,Nat.le_refl _,fun _ _=>rfl⟩,fun j L=>by rw [yF] at L; split at L <;> simp at L⟩
        rotate_left
        ·rintro h1 hR V4 i' op ⟨f,rfl,xe,U⟩ xk hx Y xq D
         have xo:=Q xe
         have HD:=Q U
         have q0:=zq (zG (M HXB) xe hlA) 0 rfl
         have q1:=zq (zG (M HXB) xe hlA) 1 rfl
         obtain ⟨-,l1,-,-,-,-,-,-⟩:=da (zm (zm (zb (M kz) (M HVW3) aw) (M HGA) (yG aw (Nat.le_of_lt hS3)) (fun e=>by have:=Option.some.inj e; omega)) (zU (G:=none) xe tg) (Nat.lt_trans aw hlA) (by simp))
         have oJ:=Q (zh (M HRJ) xe tg)
         match i',Y with
         | 0,Y =>
          obtain rfl:=hD Y
          clear D U xe xk
          rw [if_pos (by rfl)];unfold Oper.wp;go_simp
          exact ⟨upd f 0 (.agg #[H s.n,.slice aj lj.length cj]),by simp [upd],zc (M xo) (M HD) (by decide) (bM (by decide) (by decide) rfl)⟩
         | 1,Y =>
          obtain rfl:=hD Y
          clear D U xe xk
          rw [if_pos (by rfl)];unfold Oper.wp;go_simp
          exact ⟨upd f 1 (.slice (some (J lb lo)) cs.length co),by simp [upd],zc (M xo) (M HD) (by decide) (bM (by decide) (by decide) rfl)⟩
         | 2,Y =>
          obtain rfl:=hD Y
          clear D U xe xk
          rw [if_pos (by rfl)];unfold Oper.wp;go_simp
          exact ⟨upd f 2 (H k),by simp [upd],zc (M xo) (M HD) (by decide) (bM (by decide) (by decide) rfl)⟩
         | 3,Y =>
          obtain rfl:=hD Y
          have g1:f 1 = .slice (some (J lb lo)) cs.length co:=bE (U 1 (yc D 1 rfl)) (by decide) (by decide) rfl
          have g2:f 2 = H k:=bE (U 2 (yc D 2 rfl)) (by decide) (by decide) rfl
          clear D U xe xk
          rw [if_pos (by rfl)];unfold Oper.wp;go_simp
          exact ⟨upd f 3 (I lb (lo + k * 8)),by simp [upd,g1,g2],zc (M xo) (M HD) (by decide) (bM (by decide) (by decide) rfl)⟩
         | 4,Y =>
          obtain rfl:=hD Y
          have g3:f 3 = I lb (lo + k * 8):=bE (U 3 (yc D 3 rfl)) (by decide) (by decide) rfl
          clear D U xe xk
          rw [if_pos (by rfl)];unfold Oper.wp;go_simp
          exact ⟨upd f 4 (I lb (lo + k * 8 + 1)),by simp [upd,g3],zc (M xo) (M HD) (by decide) (bM (by decide) (by decide) rfl)⟩
         | 5,Y =>
          obtain rfl:=hD Y
          have g4:f 4 = I lb (lo + k * 8 + 1):=bE (U 4 (yc D 4 rfl)) (by decide) (by decide) rfl
          clear D U xe xk
          rw [if_pos (by rfl)];unfold Oper.wp;go_simp
          exact ⟨upd f 5 (H c.s),by simp [upd,g4],zc (M xo) (M HD) (by decide) (bM (by decide) (by decide) rfl)⟩
         | 6,Y =>
          obtain rfl:=hD Y
          have g5:f 5 = H c.s:=bE (U 5 (yc D 5 rfl)) (by decide) (by decide) rfl
          clear D U xe xk
          rw [if_pos (by rfl)];unfold Oper.wp;go_simp
          exact ⟨upd f 6 (H (3 - c.s)),by simp [upd,g5],zc (M xo) (M HD) (by decide) (bM (by decide) (by decide) rfl)⟩
         | 7,Y =>
          obtain rfl:=hD Y
          have g0:f 0 = .agg #[H s.n,.slice aj lj.length cj]:=bE (U 0 (yc D 0 rfl)) (by decide) (by decide) rfl
          have g6:f 6 = H (3 - c.s):=bE (U 6 (yc D 6 rfl)) (by decide) (by decide) rfl
          clear D U xe xk
          rw [if_pos (by rfl)];unfold Oper.wp;go_simp
          refine (implFront_any s.n _ lj (3 - c.s) V4 (M oJ) (okB_tags (M hoj))).mono ?_
          rintro e w6 ⟨rfl,qH⟩
          rw [M HFR,Od.val]
          exact ⟨upd f 7 (.tuple #[.agg (yt o.id o.side o.ticks o.left o.life o.tag).toArray,H 0]),by simp [upd,g0,g6],bP df_grow (M xo) (M HD) qH (by decide) (bM (by decide) (by decide) rfl)⟩
         | 8,Y =>
          obtain rfl:=hD Y
          have g7:f 7 = .tuple #[.agg (yt o.id o.side o.ticks o.left o.life o.tag).toArray,H 0]:=bE (U 7 (yc D 7 rfl)) (by decide) (by decide) rfl
          clear D U xe xk
          rw [if_pos (by rfl)];unfold Oper.wp;go_simp
          exact ⟨upd f 8 (.tuple #[.agg (yt o.id o.side o.ticks o.left o.life o.tag).toArray,H 0]),by simp [upd,g7],zc (M xo) (M HD) (by decide) (bM (by decide) (by decide) rfl)⟩
         | 9,Y =>
          obtain rfl:=hD Y
          have g8:f 8 = .tuple #[.agg (yt o.id o.side o.ticks o.left o.life o.tag).toArray,H 0]:=bE (U 8 (yc D 8 rfl)) (by decide) (by decide) rfl
          clear D U xe xk
          rw [if_pos (by rfl)];unfold Oper.wp;go_simp
          exact ⟨upd f 9 (.agg (yt o.id o.side o.ticks o.left o.life o.tag).toArray),by simp [upd,g8],zc (M xo) (M HD) (by decide) (bM (by decide) (by decide) rfl)⟩
         | 10,Y =>
          obtain rfl:=hD Y
          have g8:f 8 = .tuple #[.agg (yt o.id o.side o.ticks o.left o.life o.tag).toArray,H 0]:=bE (U 8 (yc D 8 rfl)) (by decide) (by decide) rfl
          clear D U xe xk
          rw [if_pos (by rfl)];unfold Oper.wp;go_simp
          exact ⟨upd f 10 (H 0),by simp [upd,g8],zc (M xo) (M HD) (by decide) (bM (by decide) (by decide) rfl)⟩
         | 11,Y =>
          obtain rfl:=hD Y
          have hp:¬ h1[12]? = some true:=by rw [zB xk 13 11 12 (by kernel_rfl) hx (by simp) xq]; simp
          have hS:=xe.size
          clear D U xe xk
          rw [if_pos (by rfl)];unfold Oper.wp;go_simp
          exact ⟨upd f 11 (ym V4 0),by simp [upd],bP df_grow (M xo) (M HD) (eD _ _) (by decide) (df_mk11 hp hS (yt 0 0 0 0 0 ⟨#[]⟩) rfl _)⟩
         | 12,Y =>
          obtain rfl:=hD Y
          have g9:f 9 = .agg (yt o.id o.side o.ticks o.left o.life o.tag).toArray:=bE (U 9 (yc D 9 rfl)) (by decide) (by decide) rfl
          obtain ⟨b,vr,oM,hltb,xG,-⟩:=df_11 (U 11 (yc D 11 rfl))
          have ux:Hid (∀ j,j ≠ 12→h1[j]? = some true→DFr [.agg #[H s.n,.slice aj lj.length cj],.slice (some (J lb lo)) cs.length co,H k,I lb (lo + k * 8),I lb (lo + k * 8 + 1),H c.s,H (3 - c.s),.tuple #[.agg (yt o.id o.side o.ticks o.left o.life o.tag).toArray,H 0],.tuple #[.agg (yt o.id o.side o.ticks o.left o.life o.tag).toArray,H 0],.agg (yt o.id o.side o.ticks o.left o.life o.tag).toArray,H 0,Z,Z,H 0] WA.heap.size (yt o.id o.side o.ticks o.left o.life o.tag) False V4 j (f j)→DFr [.agg #[H s.n,.slice aj lj.length cj],.slice (some (J lb lo)) cs.length co,H k,I lb (lo + k * 8),I lb (lo + k * 8 + 1),H c.s,H (3 - c.s),.tuple #[.agg (yt o.id o.side o.ticks o.left o.life o.tag).toArray,H 0],.tuple #[.agg (yt o.id o.side o.ticks o.left o.life o.tag).toArray,H 0],.agg (yt o.id o.side o.ticks o.left o.life o.tag).toArray,H 0,Z,Z,H 0] WA.heap.size (yt o.id o.side o.ticks o.left o.life o.tag) True (V4.setCells b 0 (yt o.id o.side o.ticks o.left o.life o.tag)) j (f j)):=fun j L hxj h=>df_store rfl oM hltb xG (fun e=>by subst e; exact vr) h
          have xW:=Q (zu b oM (yt o.id o.side o.ticks o.left o.life o.tag) 0 _ xe)
          obtain ⟨p0,y0,f0⟩:=zd xG (j:=0) (by omega)
          obtain ⟨p1,y1,f1⟩:=zd xG (j:=1) (by omega)
          obtain ⟨p2,y2,f2⟩:=zd xG (j:=2) (by omega)
          obtain ⟨p3,y3,f3⟩:=zd xG (j:=3) (by omega)
          obtain ⟨p4,y4,f4⟩:=zd xG (j:=4) (by omega)
          obtain ⟨p5,y5,f5⟩:=zd xG (j:=5) (by omega)
          clear D U xe xk xG
          rw [if_pos (by rfl)];unfold Oper.wp;go_simp
          exact ⟨f,by simp [g9,vr],rg_write2 (M xW) (M HD) xq (M ux) df_12⟩
         | 13,Y =>
          obtain rfl:=hD Y
          have vP:f 10 = H 0:=bE (U 10 (yc D 10 rfl)) (by decide) (by decide) rfl
          clear D U xe xk
          rw [if_pos (by rfl)];unfold Oper.wp;go_simp
          exact ⟨upd f 13 (H 0),by simp [upd,vP],zc (M xo) (M HD) (by decide) (bM (by decide) (by decide) rfl)⟩
         | n + 14,Y=>simp at Y
        ·rintro h1 hR V4 ⟨f,rfl,xe,U⟩ hx xK
         have xm:=zL xK hx (by kernel_rfl)
         have oe:f 13 = H 0:=bE (U 13 (xm 13 (by simp))) (by decide) (by decide) rfl
         obtain ⟨bo,pq,hSo,hlto,xG,hro⟩:=df_11 (U 11 (xm 11 (by simp)))
         have HRO:=Q (hro (xm 12 (by simp)))
         simp only [oe,pq]
         have qG:=Q (zG (M pm) xe (M HLA))
         have pn:=Q (zG (M HXB) xe hlA)
         have HRJ4:=Q (zh (M HRJ) xe tg)
         have oH:=Q (zQ (M HGA) (zU xe tg))
         have hl4:w1.heap.size < V4.heap.size:=yG hlA xe.size
         have HL4:Hid (wr.heap.size < V4.heap.size):=yG (M HLA) xe.size
         clear U xm xK hx xG hro pq oe xe pm HXB HRJ HGA
         generalize f 0 = tr0,f 1 = tr1,f 2 = tr2,f 3 = tr3,f 4 = tr4,f 5 = tr5,f 6 = tr6,f 7 = tr7,f 8 = tr8,f 9 = tr9,f 10 = tr10
         obtain ⟨r0,-,r2,r3,-,-⟩:=zx (M HRO)
         simp only [Nat.zero_add] at r0 r2 r3
         have x10:=zq (M qG) 10 rfl
         have x11:=zq (M qG) 11 rfl
         have x12:=zq (M qG) 12 rfl
         obtain ⟨-,l1,-,-,-,-,l6,-⟩:=da (zm (zb (M kz) (M HVW3) aw) (M oH) (yG aw (Nat.le_of_lt hS3)) (fun e=>by have:=Option.some.inj e; omega))
         have c1:(o.id != x.other) = false:=by have:=(M HHO).1; simpa using this
         have c2:(o.ticks != x.price) = false:=by have:=(M HHO).2; simpa using this
         have c3:¬ (x.qty < 1):=by omega
         have c4:¬ (o.left < x.qty):=by omega
         go_wp2_with fail
         refine (dD c.p V4).mono ?_
         rintro e V5 ⟨rfl,rfl⟩
         have HHT:=Q (fun W hW=>hit_any s.n (.slice aj lj.length cj) lj x W hW (M hoj).len (fun p hp=>bZ ((M hoj).ord p hp)) ⟨by omega,by omega⟩)
         unfold evV at HHT
         have q0:=zq (M pn) 0 rfl
         have q1:=zq (M pn) 1 rfl
         have k0:=bd (M pn) 0 (by show 0 < 2; omega)
         have k1:=bd (M pn) 1 (by show 1 < 2; omega)
         have x0:=zq (M qG) 0 rfl
         have x1:=zq (M qG) 1 rfl
         have x2:=zq (M qG) 2 rfl
         have x3:=zq (M qG) 3 rfl
         have x4:=zq (M qG) 4 rfl
         have x5:=zq (M qG) 5 rfl
         have x6:=zq (M qG) 6 rfl
         have x7:=zq (M qG) 7 rfl
         have x8:=zq (M qG) 8 rfl
         have x9:=zq (M qG) 9 rfl
         have x13:=zq (M qG) 13 rfl
         cases htb:tkOk c.p
         ·clear htb
          go_wp2_with fail
          refine (M HHT _ (M HRJ4)).mono ?_
          rintro e V6 ⟨vq6,rfl,qM,qH⟩
          rw [M HHI] at qM
          obtain ⟨a6,c6,rfl⟩:=zO qM
          have vx:=Q (zG (M pn) qH hl4)
          have s0:=zq (M vx) 0 rfl
          have s1:=zq (M vx) 1 rfl
          have f0:=bd (M vx) 0 (by show 0 < 2; omega)
          have f1:=bd (M vx) 1 (by show 1 < 2; omega)
          have hl6:(zR lj i o x.qty).length ≤ 20:=(M HOJ2).len
          have HZ:Hid (Bx (V6.setCells w1.heap.size 0 [H s.n,.slice a6 (zR lj i o x.qty).length c6]) w1.heap.size [H s.n,.slice a6 (zR lj i o x.qty).length c6]∧RdR Od.vs 6 (V6.setCells w1.heap.size 0 [H s.n,.slice a6 (zR lj i o x.qty).length c6]) (.slice a6 (zR lj i o x.qty).length c6) (zR lj i o x.qty)∧SlOk (.slice a6 (zR lj i o x.qty).length c6)∧V3.grownBy (V6.setCells w1.heap.size 0 [H s.n,.slice a6 (zR lj i o x.qty).length c6]) (some w1.heap.size)) :=
           ⟨⟨yU _ _ _ _ (M vx).t,yY (M vx).t _ _ _⟩,rd_setC (bO (bc Od.len (by omega) qM)) (fun _ e=>by have:=(qM.lt _ e).1; omega),cD qM,zQ (zQ (M oH) (zU qH tg)) (cN w1.heap.size _ 0 V6)⟩
          clear qM qH
          go_wp2_with fail
          dsimp only [H,I,J,Z,yh,yi,ys,yt,yu,ym,yn,E]
          go_roundw
          case rel=>exact ⟨j + 1,zR lj i o x.qty,.slice a6 (zR lj i o x.qty).length c6,by omega,by omega,by go_num,(M HZ).1,(M HZ).2.1,(M HZ).2.2.1,M HOJ2,M HPN,(M HZ).2.2.2⟩
          case measure=>simp [intOf]; omega
         ·have hlm:=M HLM htb
          clear htb
          rcases hs with xz | xY
          ·have jq:¬ (tk c.p < x.price):=by have:=hlm.1 xz; omega
           rw [xz] at l1
           clear hlm xz
           go_wp2_with fail
           refine (M HHT _ (M HRJ4)).mono ?_
           rintro e V6 ⟨vq6,rfl,qM,qH⟩
           rw [M HHI] at qM
           obtain ⟨a6,c6,rfl⟩:=zO qM
           have vx:=Q (zG (M pn) qH hl4)
           have s0:=zq (M vx) 0 rfl
           have s1:=zq (M vx) 1 rfl
           have f0:=bd (M vx) 0 (by show 0 < 2; omega)
           have f1:=bd (M vx) 1 (by show 1 < 2; omega)
           have hl6:(zR lj i o x.qty).length ≤ 20:=(M HOJ2).len
           have HZ:Hid (Bx (V6.setCells w1.heap.size 0 [H s.n,.slice a6 (zR lj i o x.qty).length c6]) w1.heap.size [H s.n,.slice a6 (zR lj i o x.qty).length c6]∧RdR Od.vs 6 (V6.setCells w1.heap.size 0 [H s.n,.slice a6 (zR lj i o x.qty).length c6]) (.slice a6 (zR lj i o x.qty).length c6) (zR lj i o x.qty)∧SlOk (.slice a6 (zR lj i o x.qty).length c6)∧V3.grownBy (V6.setCells w1.heap.size 0 [H s.n,.slice a6 (zR lj i o x.qty).length c6]) (some w1.heap.size)) :=
            ⟨⟨yU _ _ _ _ (M vx).t,yY (M vx).t _ _ _⟩,rd_setC (bO (bc Od.len (by omega) qM)) (fun _ e=>by have:=(qM.lt _ e).1; omega),cD qM,zQ (zQ (M oH) (zU qH tg)) (cN w1.heap.size _ 0 V6)⟩
           clear qM qH
           go_wp2_with fail
           dsimp only [H,I,J,Z,yh,yi,ys,yt,yu,ym,yn,E]
           go_roundw
           case rel=>exact ⟨j + 1,zR lj i o x.qty,.slice a6 (zR lj i o x.qty).length c6,by omega,by omega,by go_num,(M HZ).1,(M HZ).2.1,(M HZ).2.2.1,M HOJ2,M HPN,(M HZ).2.2.2⟩
           case measure=>simp [intOf]; omega
          ·have jq:¬ (x.price < tk c.p):=by have:=hlm.2 xY; omega
           rw [xY] at l1
           clear hlm xY
           go_wp2_with fail
           refine (M HHT _ (M HRJ4)).mono ?_
           rintro e V6 ⟨vq6,rfl,qM,qH⟩
           rw [M HHI] at qM
           obtain ⟨a6,c6,rfl⟩:=zO qM
           have vx:=Q (zG (M pn) qH hl4)
           have s0:=zq (M vx) 0 rfl
           have s1:=zq (M vx) 1 rfl
           have f0:=bd (M vx) 0 (by show 0 < 2; omega)
           have f1:=bd (M vx) 1 (by show 1 < 2; omega)
           have hl6:(zR lj i o x.qty).length ≤ 20:=(M HOJ2).len
           have HZ:Hid (Bx (V6.setCells w1.heap.size 0 [H s.n,.slice a6 (zR lj i o x.qty).length c6]) w1.heap.size [H s.n,.slice a6 (zR lj i o x.qty).length c6]∧RdR Od.vs 6 (V6.setCells w1.heap.size 0 [H s.n,.slice a6 (zR lj i o x.qty).length c6]) (.slice a6 (zR lj i o x.qty).length c6) (zR lj i o x.qty)∧SlOk (.slice a6 (zR lj i o x.qty).length c6)∧V3.grownBy (V6.setCells w1.heap.size 0 [H s.n,.slice a6 (zR lj i o x.qty).length c6]) (some w1.heap.size)) :=
            ⟨⟨yU _ _ _ _ (M vx).t,yY (M vx).t _ _ _⟩,rd_setC (bO (bc Od.len (by omega) qM)) (fun _ e=>by have:=(qM.lt _ e).1; omega),cD qM,zQ (zQ (M oH) (zU qH tg)) (cN w1.heap.size _ 0 V6)⟩
           clear qM qH
           go_wp2_with fail
           dsimp only [H,I,J,Z,yh,yi,ys,yt,yu,ym,yn,E]
           go_roundw
           case rel=>exact ⟨j + 1,zR lj i o x.qty,.slice a6 (zR lj i o x.qty).length c6,by omega,by omega,by go_num,(M HZ).1,(M HZ).2.1,(M HZ).2.2.1,M HOJ2,M HPN,(M HZ).2.2.2⟩
           case measure=>simp [intOf]; omega
       ·have hk3':(x.kind != 3) = true:=by simpa using hk3
        have HPJ:Hid (Pri c (eF.drop (j + 1)) lj):=by
         rcases M hpj with ⟨-,h⟩ | ⟨h,-⟩
         ·exact h
         ·exact absurd h hk3
        repeat (first | (refine wpList_store_mid rfl 46 (.tmp 13) (.tmp 73) rfl wr.heap.size 0 (ys x.kind x.cmd.k x.cmd.s x.cmd.t x.cmd.l x.cmd.q x.cmd.i x.cmd.p x.cmd.g x.id x.other x.qty x.price x.reason).toArray rfl rfl (M jf) (by kernel_rfl) (by simp [Value.oneCell']) ?_; change wpList _ _ _ _ _ ((wr.alloc (E (ys 0 0 0 0 0 0 0 0 ⟨#[]⟩ 0 0 0 0 0).toArray 46)).setCells wr.heap.size 0 (ys x.kind x.cmd.k x.cmd.s x.cmd.t x.cmd.l x.cmd.q x.cmd.i x.cmd.p x.cmd.g x.id x.other x.qty x.price x.reason)); generalize ((wr.alloc (E (ys 0 0 0 0 0 0 0 0 ⟨#[]⟩ 0 0 0 0 0).toArray 46)).setCells wr.heap.size 0 (ys x.kind x.cmd.k x.cmd.s x.cmd.t x.cmd.l x.cmd.q x.cmd.i x.cmd.p x.cmd.g x.id x.other x.qty x.price x.reason)) = WA at pm uS a0 ⊢) | go_step)
        have HZ:Hid (_∧_∧_):=⟨zG (M hbj) (M uS) hlw,zh (M hrj) (M uS) tg,zQ (M hgj) (zU (G:=some w1.heap.size) (M uS) tg)⟩
        dsimp only [H,I,J,Z,yh,yi,ys,yt,yu,ym,yn,E]
        go_roundw
        case rel=>exact ⟨j + 1,lj,.slice aj lj.length cj,by omega,by omega,by go_num,(M HZ).1,(M HZ).2.1,hsj,hoj,M HPJ,(M HZ).2.2⟩
        case measure=>simp [intOf]; omega
      ·obtain rfl:j = eF.length:=by omega
       have hjn:¬ ((eF.length:Int) < eF.length):=by omega
       have xA:some bn ≠ some w1.heap.size:=fun e=>by have:=Option.some.inj e; have:=hbn1.1; omega
       have n0:=zq (⟨zm (M HBN3).r (M hgj) hbn3 xA,bC (M HBN3).t (M hgj) hbn3 xA⟩:Bx wr bn _) 0 rfl
       have n1:=zq (⟨zm (M HBN3).r (M hgj) hbn3 xA,bC (M HBN3).t (M hgj) hbn3 xA⟩:Bx wr bn _) 1 rfl
       have k0:=bd (M hbj) 0 (by show 0 < 2; omega)
       have k1:=bd (M hbj) 1 (by show 1 < 2; omega)
       have HZ:Hid (Bx (wr.setCells w1.heap.size 0 [H mb,.slice vC hj.length vD]) w1.heap.size [H (runS (cs.take (k + 1))).n,.slice vC hj.length vD]∧RdR Od.vs 6 (wr.setCells w1.heap.size 0 [H mb,.slice vC hj.length vD]) (.slice vC hj.length vD) (runS (cs.take (k + 1))).l∧yl w1 (wr.setCells w1.heap.size 0 [H mb,.slice vC hj.length vD])):=by
        rw [M HST2]
        refine ⟨⟨yU _ _ _ _ (M hbj).t,yY (M hbj).t _ _ _⟩,rd_setC (rdR_gr (M HRN3) (M hgj) (fun g hg=>by have:=M HNB g hg; omega)) (fun _ e=>by have:=M HNB _ e; omega),zu w1.heap.size tg _ 0 wr ((M HVW3).grown (M hgj) (Nat.le_of_lt hS3) (fun q hq=>by have:=Option.some.inj hq; omega))⟩
       go_wp2_with fail
       dsimp only [H,I,J,Z,yh,yi,ys,yt,yu,ym,yn,E]
       go_roundw
       case rel=>exact ⟨k + 1,.slice vC hj.length vD,by omega,by go_num,(M HZ).1,(M HZ).2.1,hsn,(M HZ).2.2⟩
       case measure=>simp [intOf]; omega
  ·obtain rfl:k = cs.length:=by omega
   have hcl2:¬ ((cs.length:Int) < cs.length):=by omega
   go_wp2_with fail
   go_ret
   exact ⟨rfl,(M xT).trans ((M HBL).mono (M xT).size)⟩
end Go.Proofs.YtbakanofkghmiaaGreat
