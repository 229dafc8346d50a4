/-
  A taker trades as far as it goes, by the model: proved by walking the function.
-/
import Derived.Test.YtbakanofkghmiaaGreatPj39
set_option linter.unusedVariables false
set_option maxHeartbeats 6400000
set_option maxRecDepth 100000
namespace Go.Proofs.YtbakanofkghmiaaGreat
open Go.RowKit
theorem dU {B b:Nat} {v:Value} {l:List Ev} (hb:some b ≠ v.ownBlock):∀ (vs:List Value) (o:Nat) (W:World),ERow W B v l→ERow (W.setCells b o vs) B v l
 | [],_,_,h=>h
 | u :: us,o,W,h=>by rw [World.setCells]; exact dU hb us (o + 1) _ (zw h hb o u)
def MaI (c:Cm) (next:Int) (w:World) (v:Value) (l:List Od) (tt:Int) (xh:List Od × Int × List Ev) (m:Nat) (lv ev kv:Value) (wr:World):Prop :=
 ∃ (l':List Od) (left:Int) (ts:List Ev) (k:Int),kv = H k∧((lv = v∧l' = l) ∨ ORow wr (w.heap.size + 1 + 1) lv l')∧ERow wr (w.heap.size + 1 + 1) ev ts∧NexS l' ⟨next,c.s,tt,left,c.l,c.g⟩ k∧MI c next xh l' left ts ∧
  wr.rangeAt w.heap.size 0 [H next,H c.s,H tt,H left,H c.l,yi c.g]∧wr.there w.heap.size 0 6∧wr.there (w.heap.size + 1) 0 6∧yl w wr∧w.heap.size + 1 + 1 ≤ wr.heap.size∧2 * l'.length + (if 0 < left then 1 else 0) ≤ m
theorem ma_end {c:Cm} {next tt:Int} {xh:List Od × Int × List Ev} {l':List Od} {left:Int} {ts:List Ev} (htt:tt = tkS c.p) (hs:c.s = 1 ∨ c.s = 2) (hp:prcB c = true) (hm:MI c next xh l' left ts) (h:left = 0 ∨ aD l' (othS c.s) = none ∨ ∃ o,aD l' (othS c.s) = some o∧bw c.s tt o = false):xh = (l',left,ts):=by
 subst htt
 rcases h with h | h | ⟨o,h,K⟩
 ·exact mi_done hm (by omega)
 ·exact mi_none hm h
 ·rw [cross_meet hp] at K; exact mi_stop hm h K
def MatEnd (w:World) (v:Value) (l:List Od) (w':World) (v' ve:Value) (xh:List Od × Int × List Ev):Prop :=
 ((v' = v∧xh.1 = l) ∨ ORow w' w.heap.size v' xh.1)∧ERow w' w.heap.size ve xh.2.2∧yl w w'
theorem eRow_base {W:World} {B B':Nat} {v:Value} {l:List Ev} (h:ERow W B v l) (hB:B' ≤ B):ERow W B' v l :=
 ⟨h.1,by
  rcases h.2 with h | ⟨g',c',xp,z,K,h3⟩
  ·exact .inl h
  ·exact .inr ⟨g',c',xp,z,yK hB K,h3⟩⟩
theorem dm (v:Value) (l:List Od) (c:Cm) (next:Int) (w:World) (hr:RdR Od.vs 6 w v l) (hg:GoodL l) (hs:c.s = 1 ∨ c.s = 2) (hp:prcB c = true) (je:0 ≤ c.q) (qy:c.q ≤ 1000000) :
  Calls Tryz.prog 89 #[v,.agg #[H next,H c.s,H (tkS c.p),H c.q,H c.l,yi c.g]] w fun e w'=>∃ v' ve,e = .returned (.tuple #[v',.agg #[H next,H c.s,H (tkS c.p),H (matL c next 21 l c.q []).2.1,H c.l,yi c.g],ve])∧MatEnd w v l w' v' ve (matL c next 21 l c.q []):=by
 obtain ⟨i0,uv,uq,uw,uM⟩:=info_parts infoEv
 have HMI0:=Q (mi_start (c:=c) (id:=next) hg je qy)
 have HR:=Q hr
 have HGL:=Q hg
 have HS:=Q hs
 have HP:=Q hp
 generalize htt:tkS c.p = tt
 have pX:=Q htt.symm
 generalize matL c next 21 l c.q [] = xh at HMI0 ⊢
 obtain ⟨a,F,rfl,xD,hc⟩:=hr
 obtain ⟨ck,cs,ct,cl,cq,ci,cp,cg⟩:=c
 simp only at hs je qy htt pX HS ⊢
 clear hc hg hp xD htt
 have xz:=ze w (Obj.cells #[H next,H cs,H tt,H cq,H cl,yi cg] 49)
 have xY:((w.alloc (Obj.cells #[H next,H cs,H tt,H cq,H cl,yi cg] 49)).alloc (Obj.cells #[H 0,H 0,H 0,H 0,H 0,yi ⟨#[]⟩] 49)).heap.size = w.heap.size + 1 + 1:=by rw [ze,xz]
 have kp:(((w.alloc (Obj.cells #[H next,H cs,H tt,H cq,H cl,yi cg] 49)).alloc (Obj.cells #[H 0,H 0,H 0,H 0,H 0,yi ⟨#[]⟩] 49)).alloc (Obj.cells #[] 46)).heap.size = w.heap.size + 1 + 1 + 1:=by rw [ze,xY]
 have r1:=zg w [H next,H cs,H tt,H cq,H cl,yi cg] 49
 have t1:=zH w [H next,H cs,H tt,H cq,H cl,yi cg] 49
 have t2:=zH (w.alloc (Obj.cells #[H next,H cs,H tt,H cq,H cl,yi cg] 49)) [H 0,H 0,H 0,H 0,H 0,yi ⟨#[]⟩] 49
 rw [xz] at t2
 have e3:=World.ownsRow_made (base:=w.heap.size + 1 + 1) (e:=46) (size:=14) ((w.alloc (Obj.cells #[H next,H cs,H tt,H cq,H cl,yi cg] 49)).alloc (Obj.cells #[H 0,H 0,H 0,H 0,H 0,yi ⟨#[]⟩] 49)) #[] 0 (by omega) (by decide) rfl
 rw [xY] at e3
 have b1:=eD w (Obj.cells #[H next,H cs,H tt,H cq,H cl,yi cg] 49)
 have b2:Below (w.heap.size + 1) (w.alloc (Obj.cells #[H next,H cs,H tt,H cq,H cl,yi cg] 49)) ((w.alloc (Obj.cells #[H next,H cs,H tt,H cq,H cl,yi cg] 49)).alloc (Obj.cells #[H 0,H 0,H 0,H 0,H 0,yi ⟨#[]⟩] 49)):=(Below.refl _ _).alloc (by omega) _
 have b3:Below (w.heap.size + 1 + 1) ((w.alloc (Obj.cells #[H next,H cs,H tt,H cq,H cl,yi cg] 49)).alloc (Obj.cells #[H 0,H 0,H 0,H 0,H 0,yi ⟨#[]⟩] 49)) (((w.alloc (Obj.cells #[H next,H cs,H tt,H cq,H cl,yi cg] 49)).alloc (Obj.cells #[H 0,H 0,H 0,H 0,H 0,yi ⟨#[]⟩] 49)).alloc (Obj.cells #[] 46)):=(Below.refl _ _).alloc (by omega) _
 have b23:=b2.trans (b3.mono (by omega))
 have HX:Hid (_∧_∧_∧_):=⟨zb r1 b23 (by omega),zf t1 b23 (by omega),zf t2 b3 (by omega),e3⟩
 have xM:=Q (b1.trans (b23.mono (by omega)))
 have kh:=Q kp
 clear xz xY kp r1 t1 t2 b1 b2 b3 b23 e3
 go_enter Tryz.func89,Tryz.ntmps89
 refine eH fun h2 xu=>?_
 go_wp2_with fail
 refine M xu _ _ ?_
 clear xu
 refine eH fun h2 xu=>?_
 go_wp2_with fail
 refine M xu _ _ ?_
 clear xu
 generalize (((w.alloc (Obj.cells #[H next,H cs,H tt,H cq,H cl,yi cg] 49)).alloc (Obj.cells #[H 0,H 0,H 0,H 0,H 0,yi ⟨#[]⟩] 49)).alloc (Obj.cells #[] 46)) = qt at HX xM kh ⊢
 have HX:Hid (qt.rangeAt w.heap.size 0 [H next,H cs,H tt,H cq,H cl,yi cg]∧qt.there w.heap.size 0 6∧qt.there (w.heap.size + 1) 0 6∧qt.ownsRow (w.heap.size + 1 + 1) 46 14 (.slice (some (J (w.heap.size + 1 + 1) 0)) 0 0) 0 []):=M HX
 obtain ⟨c0,c1,c2,c3,c4,c5⟩:=yz (M HX).1
 go_wp2_with fail
 refine (l04Next_any _ l ⟨next,cs,tt,cq,cl,cg⟩ qt (zh (M HR) (M xM) tg) (M HGL).rise (by have:=(M HGL).len; omega) (M HS)).mono ?_
 rintro e w2 ⟨k,rfl,vU,ue⟩
 have ux:Hid (MaI ⟨ck,cs,ct,cl,cq,ci,cp,cg⟩ next w (.slice a l.length F) l tt xh (2 * l.length + 1) (.slice a l.length F) (.slice (some (J (w.heap.size + 1 + 1) 0)) 0 0) (H k) w2):=by
  have kp:=M kh
  refine ⟨l,cq,[],k,rfl,.inl ⟨rfl,rfl⟩,?_,vU,M HMI0,zb (M HX).1 ue (by omega),zf (M HX).2.1 ue (by omega),zf (M HX).2.2.1 ue (by omega),(M xM).trans (ue.mono (M xM).size),by have:=ue.size; omega,by split <;> omega⟩
  exact zK (l:=[]) (M HX).2.2.2 ue
 clear vU ue c0 c1 c2 c3 c4 c5 HX xM kh HMI0
 go_wp2_with fail
 go_loopg [0,7,8] (2 * l.length + 1) (fun m lv ev kv wr=>MaI ⟨ck,cs,ct,cl,cq,ci,cp,cg⟩ next w (.slice a l.length F) l tt xh m lv ev kv wr)
 case atStart=>exact M ux
 case round =>
  obtain ⟨l',left,ts,kx,rfl,hlv,jC,vU,pC,hrt,ht0,ht1,hbw,ke,hme⟩:=hrel
  have jt:=Q jC
  have HMI:=Q pC
  have kR:=Q hrt
  have HT0:=Q ht0
  have qD:=Q ht1
  have xJ:=Q hbw
  have HLV:=Q hlv
  have qC:Hid (RdR Od.vs 6 wr u0 l'):=by
   rcases hlv with ⟨rfl,rfl⟩ | h
   ·exact zh (M HR) hbw tg
   ·exact zT h (by have:=pC.good.len; omega)
  have xD:=pC.good.len
  have oT:=pC.l0
  have hl1:=pC.l1
  have hfew:=pC.few
  clear jC hrt ht0 ht1 hbw ux hlv
  rcases vU with ⟨rfl,vT⟩ | ⟨i,o,rfl,hi,kT,hfo,hcr,oU⟩
  ·have HF:=Q (ma_end (M pX) (M HS) (M HP) pC vT)
   clear vT pC
   go_wp2_with fail
   obtain ⟨V0,oO⟩:∃ V:World,V = { wr with drawn:=wr.drawn + 1 }:=⟨_,rfl⟩
   have HLV:Hid ((u0 = .slice a l.length F∧l' = l) ∨ ORow V0 (w.heap.size + 1 + 1) u0 l'):=by rw [oO]; exact M HLV
   have jt:Hid (ERow V0 (w.heap.size + 1 + 1) u7 ts):=by rw [oO]; exact M jt
   have kR:Hid (V0.rangeAt w.heap.size 0 [H next,H cs,H tt,H left,H cl,yi cg]):=by rw [oO]; exact M kR
   have qD:Hid (V0.there (w.heap.size + 1) 0 6):=by rw [oO]; exact M qD
   have xJ:Hid (yl w V0):=by rw [oO]; exact (M xJ).trans ⟨rfl,rfl,rfl,Nat.le_refl _,fun _ _=>rfl⟩
   obtain ⟨V1,vQ⟩:∃ V:World,V = V0.setCells (w.heap.size + 1) 0 [H next,H cs,H tt,H left,H cl,yi cg]:=⟨_,rfl⟩
   have jn:Hid (V1.rangeAt (w.heap.size + 1) 0 [H next,H cs,H tt,H left,H cl,yi cg]):=by rw [vQ]; exact yU V0 _ 0 _ (fun j L=>M qD j L)
   have ud:Hid (MatEnd w (.slice a l.length F) l V1 u0 u7 xh):=by
    rw [M HF]
    refine ⟨?_,?_,?_⟩
    ·rcases M HLV with h | h
     ·exact .inl h
     ·exact .inr (by rw [vQ]; exact bV (dj (by omega) _ _ _ h) (by omega))
    ·rw [vQ]
     refine eRow_base (dU (fun e=>?_) _ _ _ (M jt)) (show w.heap.size ≤ w.heap.size + 1 + 1 by omega)
     have:=((M jt).lt _ e.symm).1
     omega
    ·rw [vQ]; exact zu _ (by omega) _ _ _ (M xJ)
   have HFL:Hid (xh.2.1 = left):=by show _ = _; rw [M HF]
   have HV0:=Q oO
   have HV1:=Q vQ
   clear oO vQ HLV jt xJ
   refine zi (R8A (fun f=>{ tmps:=#[u0,.agg #[H next,H cs,H tt,H cq,H cl,yi cg],Z,I w.heap.size 0,f 3,I (w.heap.size + 1) 0,f 5,u7,H (-1),u9,.slice (some (J (w.heap.size + 1 + 1) 0)) 0 0,.slice a l.length F,.agg #[H next,H cs,H tt,H cq,H cl,yi cg],H k,H (-1),.bool false,u16,u17,u18,u19,u20,u21,u22,u23,u24,u25,u26,u27,u28,u29,u30,u31,f 0,f 1,f 2],defers:=[] }) u0 (.agg #[H next,H cs,H tt,H left,H cl,yi cg]) u7 V0 V1 V1) (by kernel_rfl) ?_ ?_ ?_
   ·exact ⟨fun j=>if j = 3 then .slice none 0 0 else if j = 5 then .slice none 0 0 else Z,rfl,⟨by simp,by simp,by simp,by simp,by simp,fun _=>(M HV0).symm,by simp,by simp⟩⟩
   ·rintro x hR V' ⟨f,rfl,A⟩ hx xK
    have xm:=zL xK hx (by kernel_rfl)
    have e3:=A.f3 (xm 3 (by simp))
    have e5:=A.f5 (xm 5 (by simp))
    have eW:=A.s2 (xm 4 (by simp)) (xm 5 (by simp))
    subst eW
    simp only [e3,e5]
    clear A xm e3 e5 xK hx
    obtain ⟨d0,d1,d2,d3,d4,d5⟩:=yz (M jn)
    go_wp2_with fail
    try simp (config:={ zetaDelta:=true }) only [Exit.noGoto_ret]
    try simp only [Exit.inBlock,Exit.then]
    refine bodyPost_ret (by simp [results,Tryz.results89,go_sem,d0,d1,d2,d3,d4,d5]; try rfl) rfl ?_
    exact ⟨u0,u7,by rw [M HFL],M ud⟩
   ·rintro x hR V' i' o' ⟨f,rfl,A⟩ xk hx Y xq D
    have n5:i' < 5→x[5]? = some false:=fun xL=>by
     rcases bK hx (show 5 < 6 by omega) with h | h
     ·exact h
     ·have:=xk 5 _ rfl h ⟨i',.phase⟩ (by rcases (by omega:i' = 0 ∨ i' = 1 ∨ i' = 2 ∨ i' = 3 ∨ i' = 4) with rfl | rfl | rfl | rfl | rfl <;> simp) rfl
      rw [xq] at this; cases this
    have n4:i' = 0 ∨ i' = 1 ∨ i' = 3→x[4]? = some false:=fun xL=>by
     rcases bK hx (show 4 < 6 by omega) with h | h
     ·exact h
     ·have:=xk 4 _ rfl h ⟨i',.phase⟩ (by rcases xL with rfl | rfl | rfl <;> simp) rfl
      rw [xq] at this; cases this
    have xv:=Q A
    clear xk
    match i',Y with
    | 0,Y =>
     obtain rfl:=hD Y
     clear D A
     rw [if_pos (by rfl)];unfold Oper.wp;go_simp
     exact ⟨upd f 0 u0,by simp [upd],r8_val (M xv) 0 _ (by omega) (fun _=>rfl) (by omega) (by omega) (by omega)⟩
    | 1,Y =>
     obtain rfl:=hD Y
     have eV:=A.s0 (n4 (by omega))
     subst eV
     obtain ⟨c0,c1,c2,c3,c4,c5⟩:=yz (M kR)
     clear D A
     rw [if_pos (by rfl)];unfold Oper.wp;go_simp
     exact ⟨upd f 1 (.agg #[H next,H cs,H tt,H left,H cl,yi cg]),by simp [upd],r8_val (M xv) 1 _ (by omega) (by omega) (fun _=>rfl) (by omega) (by omega)⟩
    | 2,Y =>
     obtain rfl:=hD Y
     clear D A
     rw [if_pos (by rfl)];unfold Oper.wp;go_simp
     exact ⟨upd f 2 u7,by simp [upd],r8_val (M xv) 2 _ (by omega) (by omega) (by omega) (fun _=>rfl) (by omega)⟩
    | 3,Y =>
     obtain rfl:=hD Y
     have g0:=A.f0 (yc D 0 rfl)
     clear D A
     rw [if_pos (by rfl)];unfold Oper.wp;go_simp
     exact ⟨upd f 3 u0,by simp [upd,g0],r8_val (M xv) 3 _ (by omega) (by omega) (by omega) (by omega) (fun _=>rfl)⟩
    | 4,Y =>
     obtain rfl:=hD Y
     have g1:=A.f1 (yc D 1 rfl)
     have eV:=A.s0 xq
     subst eV
     have xG:=M qD
     obtain ⟨y0,z0,q0⟩:=zd xG (j:=0) (by omega)
     obtain ⟨y1,z1,q1⟩:=zd xG (j:=1) (by omega)
     obtain ⟨y2,z2,q2⟩:=zd xG (j:=2) (by omega)
     obtain ⟨y3,z3,q3⟩:=zd xG (j:=3) (by omega)
     obtain ⟨y4,z4,q4⟩:=zd xG (j:=4) (by omega)
     obtain ⟨y5,z5,q5⟩:=zd xG (j:=5) (by omega)
     have n5':=n5 (by omega)
     clear D A xG
     rw [if_pos (by rfl)];unfold Oper.wp;go_simp
     have HR4:=r8_4 (M xv) xq n5'
     conv at HR4=>arg 9; rw [M HV1]
     exact ⟨f,by simp [g1],HR4⟩
    | 5,Y =>
     obtain rfl:=hD Y
     have g2:=A.f2 (yc D 2 rfl)
     have k4:x[4]? = some true:=D ⟨4,.chain⟩ (by simp) rfl
     have eV:=A.s1 k4 xq
     subst eV
     have pV:=r8_5 (M xv) k4 xq
     clear D A
     rw [if_pos (by rfl)];unfold Oper.wp;go_simp
     exact ⟨upd f 5 u7,by simp [upd,g2],pV⟩
    | i' + 6,Y=>simp at Y
  ·have h0:0 < left:=by simp only at oU; omega
   obtain ⟨k2,_,hk2,hmi2,hme2⟩:=mi_step pC h0 hfo (by rw [← cross_meet (M HP),← M pX]; exact hcr)
   obtain rfl:i = k2:=rise_id pC.good.rise kT hk2 rfl
   have Y:=pC.good.left o (yL kT)
   have HMI2:=Q hmi2
   have HIO:=Q kT
   clear hmi2 pC hfo hcr oU hk2 kT
   have hii:(0:Int) ≤ i:=by omega
   refine eH fun h2 xu=>?_
   go_wp2_with fail
   refine M xu _ _ ?_
   clear xu
   refine eH fun h2 xu=>?_
   refine wp_block ?_
   refine eH fun K2 kw=>?_
   have hsf:=sfl
   go_wp2_with fail
   refine M kw _ _ ?_
   clear kw
   have qd:=eD wr (Obj.cells #[H 0,H 0,H 0,H 0,H 0,H 0,H 0,yh 0,yi ⟨#[]⟩,H 0,H 0,H 0,H 0,H 0] 46)
   have hsY:=ze wr (Obj.cells #[H 0,H 0,H 0,H 0,H 0,H 0,H 0,yh 0,yi ⟨#[]⟩,H 0,H 0,H 0,H 0,H 0] 46)
   have kR:=Q (zb (M kR) qd (by omega))
   have HT0:=Q (zf (M HT0) qd (by omega))
   have qD:=Q (zf (M qD) qd (by omega))
   have HER2:=Q (zK (M jt) qd)
   have jR:Hid (∀ g,u7.ownBlock = some g→w.heap.size + 1 + 1 ≤ g∧g < wr.heap.size):=fun g hg=>(M jt).lt g hg
   have qC:=Q (zh (M qC) qd tg)
   have HTE:=Q (zH wr [H 0,H 0,H 0,H 0,H 0,H 0,H 0,yh 0,yi ⟨#[]⟩,H 0,H 0,H 0,H 0,H 0] 46)
   have xJ:=Q (eG (M xJ) qd)
   clear qd jt HLV
   have HTE:Hid (World.there (wr.alloc (Obj.cells #[H 0,H 0,H 0,H 0,H 0,H 0,H 0,yh 0,yi ⟨#[]⟩,H 0,H 0,H 0,H 0,H 0] 46)) wr.heap.size 0 14):=M HTE
   generalize wr.alloc (Obj.cells #[H 0,H 0,H 0,H 0,H 0,H 0,H 0,yh 0,yi ⟨#[]⟩,H 0,H 0,H 0,H 0,H 0] 46) = ho at kR HT0 qD HER2 qC HTE xJ hsY ⊢
   generalize wr.heap.size = eF at jR HTE hsY ke ⊢
   obtain ⟨c0,c1,c2,c3,c4,c5⟩:=yz (M kR)
   refine eH fun K2 kw=>?_
   go_wp2_with fail
   refine (l04Hit_any _ l' ⟨next,cs,tt,left,cl,cg⟩ o i ho (M qC) (by omega) (M HIO) oT hl1 (by omega) Y.2).mono ?_
   rintro e w2 ⟨v2,rfl,ho2,ue⟩
   simp only [Od.vs,Ev.vs,trE,zCm]
   simp only at ho2
   have hq0':0 ≤ min left o.left:=by omega
   generalize min left o.left = q at ho2 HMI2 hme2 hq0' ⊢
   have vO:=Q ho2
   have xC:=Q ue
   have hTa:=zf (M HT0) ue (by omega)
   have oN:=zf (M HTE) ue (by omega)
   have qF:=Q hTa
   have HTB:=Q oN
   have HT1':=Q (zf (M qD) ue (by omega))
   have HER3:=Q (zK (M HER2) ue)
   have HBW2:=Q (eG (M xJ) ue)
   have xY:=ue.size
   obtain ⟨ya0,za0,qa0⟩:=zd hTa (j:=0) (by omega)
   obtain ⟨ya1,za1,qa1⟩:=zd hTa (j:=1) (by omega)
   obtain ⟨ya2,za2,qa2⟩:=zd hTa (j:=2) (by omega)
   obtain ⟨ya3,za3,qa3⟩:=zd hTa (j:=3) (by omega)
   obtain ⟨ya4,za4,qa4⟩:=zd hTa (j:=4) (by omega)
   obtain ⟨ya5,za5,qa5⟩:=zd hTa (j:=5) (by omega)
   obtain ⟨yb0,zb0,qb0⟩:=zd oN (j:=0) (by omega)
   obtain ⟨yb1,zb1,qb1⟩:=zd oN (j:=1) (by omega)
   obtain ⟨yb2,zb2,qb2⟩:=zd oN (j:=2) (by omega)
   obtain ⟨yb3,zb3,qb3⟩:=zd oN (j:=3) (by omega)
   obtain ⟨yb4,zb4,qb4⟩:=zd oN (j:=4) (by omega)
   obtain ⟨yb5,zb5,qb5⟩:=zd oN (j:=5) (by omega)
   obtain ⟨yb6,zb6,qb6⟩:=zd oN (j:=6) (by omega)
   obtain ⟨yb7,zb7,qb7⟩:=zd oN (j:=7) (by omega)
   obtain ⟨yb8,zb8,qb8⟩:=zd oN (j:=8) (by omega)
   obtain ⟨yb9,zb9,qb9⟩:=zd oN (j:=9) (by omega)
   obtain ⟨yb10,zb10,qb10⟩:=zd oN (j:=10) (by omega)
   obtain ⟨yb11,zb11,qb11⟩:=zd oN (j:=11) (by omega)
   obtain ⟨yb12,zb12,qb12⟩:=zd oN (j:=12) (by omega)
   obtain ⟨yb13,zb13,qb13⟩:=zd oN (j:=13) (by omega)
   have hES:eF ≠ w.heap.size:=by omega
   have hSE:w.heap.size ≠ eF:=by omega
   clear c0 c1 c2 c3 c4 c5 ho2 ue hTa oN HT0 HTE qD HER2 xJ qC kR
   go_wp2_with fail
   refine M kw _ _ ?_
   clear kw za0 qa0 za1 qa1 za2 qa2 za3 qa3 za4 qa4 za5 qa5 zb0 qb0 zb1 qb1 zb2 qb2 zb3 qb3 zb4 qb4 zb5 qb5 zb6 qb6 zb7 qb7 zb8 qb8 zb9 qb9 zb10 qb10 zb11 qb11 zb12 qb12 zb13 qb13
   have eW:((((((((((((((((((((w2.setCell (J w.heap.size 0) (H next)).setCell (J w.heap.size 1) (H cs)).setCell (J w.heap.size 2) (H tt)).setCell (J w.heap.size 3) (H (left - q))).setCell (J w.heap.size 4) (H cl)).setCell (J w.heap.size 5) (yi cg)).setCell (J eF 0) (H 3)).setCell (J eF 1) (H 0)).setCell (J eF 2) (H 0)).setCell (J eF 3) (H 0)).setCell (J eF 4) (H 0)).setCell (J eF 5) (H 0)).setCell (J eF 6) (H 0)).setCell (J eF 7) (yh 0)).setCell (J eF 8) (yi ⟨#[]⟩)).setCell (J eF 9) (H next)).setCell (J eF 10) (H o.id)).setCell (J eF 11) (H q)).setCell (J eF 12) (H o.ticks)).setCell (J eF 13) (H 0)) = (w2.setCells w.heap.size 0 [H next,H cs,H tt,H (left - q),H cl,yi cg]).setCells eF 0 [H 3,H 0,H 0,H 0,H 0,H 0,H 0,yh 0,yi ⟨#[]⟩,H next,H o.id,H q,H o.ticks,H 0]:=rfl
   rw [eW]
   clear eW
   obtain ⟨V1,vQ⟩:∃ V:World,V = w2.setCells w.heap.size 0 [H next,H cs,H tt,H (left - q),H cl,yi cg]:=⟨_,rfl⟩
   rw [← vQ]
   have jn:Hid (V1.rangeAt w.heap.size 0 [H next,H cs,H tt,H (left - q),H cl,yi cg]):=by rw [vQ]; exact yU w2 _ 0 _ (fun j L=>M qF j L)
   have kg:Hid (V1.there w.heap.size 0 6):=by rw [vQ]; exact yY (M qF) _ _ _
   have vz:Hid (V1.there (w.heap.size + 1) 0 6):=by rw [vQ]; exact yY (M HT1') _ _ _
   have vJ:Hid (V1.there eF 0 14):=by rw [vQ]; exact yY (M HTB) _ _ _
   have uZ:Hid (ORow V1 ho.heap.size v2 (zR l' i o q)):=by rw [vQ]; exact dj (by omega) _ _ _ (M vO)
   have pd:Hid (ERow V1 (w.heap.size + 1 + 1) u7 ts):=by rw [vQ]; exact dU (fun e=>by have:=(M jR _ e.symm).1; omega) _ _ _ (M HER3)
   have xT:Hid (yl w V1):=by rw [vQ]; exact zu _ tg _ _ _ (M HBW2)
   have xz:V1.heap.size = w2.heap.size:=by rw [vQ,cy]
   clear vQ
   obtain ⟨V2,kF⟩:∃ V:World,V = V1.setCells eF 0 [H 3,H 0,H 0,H 0,H 0,H 0,H 0,yh 0,yi ⟨#[]⟩,H next,H o.id,H q,H o.ticks,H 0]:=⟨_,rfl⟩
   rw [← kF]
   have qe:Hid (V2.rangeAt eF 0 [H 3,H 0,H 0,H 0,H 0,H 0,H 0,yh 0,yi ⟨#[]⟩,H next,H o.id,H q,H o.ticks,H 0]):=by rw [kF]; exact yU V1 _ 0 _ (fun j L=>M vJ j L)
   have jx:Hid (V2.rangeAt w.heap.size 0 [H next,H cs,H tt,H (left - q),H cl,yi cg]):=by rw [kF]; exact ed (M jn) (by omega)
   have oH:Hid (V2.there w.heap.size 0 6):=by rw [kF]; exact yY (M kg) _ _ _
   have jS:Hid (V2.there (w.heap.size + 1) 0 6):=by rw [kF]; exact yY (M vz) _ _ _
   have qB:Hid (ORow V2 ho.heap.size v2 (zR l' i o q)):=by rw [kF]; exact dj (by omega) _ _ _ (M uZ)
   have oF:Hid (ERow V2 (w.heap.size + 1 + 1) u7 ts):=by rw [kF]; exact dU (fun e=>by have:=(M jR _ e.symm).2; omega) _ _ _ (M pd)
   have xS:Hid (yl w V2):=by rw [kF]; exact zu _ (by omega) _ _ _ (M xT)
   have hs4:ho.heap.size ≤ V2.heap.size:=by rw [kF,cy,xz]; exact xY
   clear kF jn kg vz vJ uZ pd xT xz vO xC qF HTB HT1' HER3 HBW2
   obtain ⟨e0,e1,e2,e3,e4,e5,e6,e7,e8,e9,jz,pq,e12,oe⟩:=yC (M qe)
   have HE3:=Q ((M oF).alloc (Obj.cells #[H 3,H 0,H 0,H 0,H 0,H 0,H 0,yh 0,yi ⟨#[]⟩,H next,H o.id,H q,H o.ticks,H 0] 46))
   have hs5:V2.heap.size + 1 ≤ (V2.alloc (Obj.cells #[H 3,H 0,H 0,H 0,H 0,H 0,H 0,yh 0,yi ⟨#[]⟩,H next,H o.id,H q,H o.ticks,H 0] 46)).heap.size:=Nat.le_of_eq (ze _ _).symm
   have uN:=eD V2 (Obj.cells #[H 3,H 0,H 0,H 0,H 0,H 0,H 0,yh 0,yi ⟨#[]⟩,H next,H o.id,H q,H o.ticks,H 0] 46)
   have uQ:Hid (∀ j u,[H 3,H 0,H 0,H 0,H 0,H 0,H 0,yh 0,yi ⟨#[]⟩,H next,H o.id,H q,H o.ticks,H 0][j]? = some u→(V2.alloc (Obj.cells #[H 3,H 0,H 0,H 0,H 0,H 0,H 0,yh 0,yi ⟨#[]⟩,H next,H o.id,H q,H o.ticks,H 0] 46)).cell? (((J V2.heap.size 0):Addr).add j) = some u):=fun j u hu=>bQ V2 [H 3,H 0,H 0,H 0,H 0,H 0,H 0,yh 0,yi ⟨#[]⟩,H next,H o.id,H q,H o.ticks,H 0] 46 j u hu
   have kQ:=Q (zj (M qB) uN)
   have oI:=Q (zb (M jx) uN (by omega))
   have kO:=Q (zf (M oH) uN (by omega))
   have HG7:=Q (zf (M jS) uN (by omega))
   have vA:=Q (eG (M xS) uN)
   have HEBv:Hid (∀ g,u7.ownBlock = some g→w.heap.size + 1 + 1 ≤ g):=fun g hg=>(M jR g hg).1
   clear uN qB jx oH jS xS jR
   go_wp2_with (at_builtin; go_must (refine wpList_append_own _ rfl _ _ 38 rfl (w.heap.size + 1 + 1) 46 i0 _ 14 120 Tryz.underlying38 uv uq uw uM rfl (by decide) u7 ts.length (ts.flatMap Ev.vs) rfl (M HE3) (J V2.heap.size 0) 1 1 [H 3,H 0,H 0,H 0,H 0,H 0,H 0,yh 0,yi ⟨#[]⟩,H next,H o.id,H q,H o.ticks,H 0] rfl rfl (M uQ) (by simp [Value.oneCell']) (by unfold maxLen; omega) (by omega) (by omega) ?_); intro v5 w5 un vu _; have pf:=Q un; have jS:=Q vu; clear un vu)
   have HRO:=Q ((M kQ).kept (M jS) (zD (M kQ) (M HE3) (by decide)))
   have jm:Hid (∀ b,b < w.heap.size + 1 + 1→some b ≠ u7.ownBlock):=fun b hb e=>by have:=M HEBv b e.symm; omega
   have pg:=Q (zm (M oI) (M jS) (by omega) (M jm _ (by omega)))
   have HT5:=Q (bC (M kO) (M jS) (by omega) (M jm _ (by omega)))
   have qX:=Q (bC (M HG7) (M jS) (by omega) (M jm _ (by omega)))
   have vI:=Q ((M vA).grown (M jS) (M vA).size (fun k hk=>by have:=M HEBv k hk; omega))
   have hs6:=(M jS).size
   have qQ:Hid (ERow w5 (w.heap.size + 1 + 1) v5 (ts ++ [trE next o.id q o.ticks])):=by
    show w5.ownsRow _ _ _ _ (ts ++ [trE next o.id q o.ticks]).length _
    rw [yM,List.flatMap_append]
    have:=M pf
    simpa [Ev.vs,trE,zCm] using this
   obtain ⟨x0,x1,x2,x3,x4,x5⟩:=yz (M pg)
   try simp only [Exit.inBlock,Exit.then]
   refine M xu _ _ ?_
   clear xu HE3 uQ kQ oI kO HG7 vA jS pf e0 e1 e2 e3 e4 e5 e6 e7 e8 e9 jz pq e12 oe
   have hgl:=(M HMI2).good
   have hln:=hgl.len
   go_wp2_with fail
   refine (l04Next_any v2 (zR l' i o q) ⟨next,cs,tt,left - q,cl,cg⟩ w5 (zT (M HRO) (by omega)) hgl.rise (by omega) (M HS)).mono ?_
   rintro e w6 ⟨k6,rfl,hnx6,qH⟩
   have HN:Hid (MaI ⟨ck,cs,ct,cl,cq,ci,cp,cg⟩ next w (.slice a l.length F) l tt xh (2 * (zR l' i o q).length + (if 0 < left - q then 1 else 0)) v2 v5 (H k6) w6) :=
    ⟨zR l' i o q,left - q,ts ++ [trE next o.id q o.ticks],k6,rfl,.inr (bV (zj (M HRO) qH) (by omega)),zK (M qQ) qH,hnx6,M HMI2,zb (M pg) qH (by omega),zf (M HT5) qH (by omega),zf (M qX) qH (by omega),(M vI).trans (qH.mono (M vI).size),by have:=qH.size; omega,Nat.le_refl _⟩
   clear hnx6 qH
   go_wp2_with fail
   go_roundg (2 * (zR l' i o q).length + (if 0 < left - q then 1 else 0))
   case measure=>rw [if_pos h0] at hme; omega
   case rel=>exact M HN
end Go.Proofs.YtbakanofkghmiaaGreat
