/-
  A taker trades as far as it goes, by the model: proved by walking the function.
-/
import Derived.Test.YtbakanofkghmiaaGreatUj37
set_option linter.unusedVariables false
set_option maxHeartbeats 6400000
set_option maxRecDepth 100000
namespace Go.Proofs.YtbakanofkghmiaaGreat
open Go.RowKit
theorem dQ {B b:Nat} {v:Value} {l:List Ev} (O:some b ≠ v.ownBlock):∀ (vs:List Value) (o:Nat) (W:World),ERow W B v l→ERow (W.setCells b o vs) B v l
 | [],_,_,h=>h
 | u :: us,o,W,h=>by rw [World.setCells]; exact dQ O us (o + 1) _ (zw h O o u)
def MaI (c:Cm) (next:Int) (w:World) (v:Value) (l:List Od) (tt:Int) (qt:List Od × Int × List Ev) (m:Nat) (lv ev kv:Value) (wr:World):Prop :=
 ∃ (l':List Od) (left:Int) (ts:List Ev) (k:Int),kv = H k∧((lv = v∧l' = l) ∨ ORow wr (w.heap.size + 1 + 1) lv l')∧ERow wr (w.heap.size + 1 + 1) ev ts∧NexS l' ⟨next,c.s,tt,left,c.l,c.g⟩ k∧MI c next qt l' left ts ∧
  wr.rangeAt w.heap.size 0 [H next,H c.s,H tt,H left,H c.l,yj c.g]∧wr.there w.heap.size 0 6∧wr.there (w.heap.size + 1) 0 6∧ym w wr∧w.heap.size + 1 + 1 ≤ wr.heap.size∧2 * l'.length + (if 0 < left then 1 else 0) ≤ m
theorem ma_end {c:Cm} {next tt:Int} {qt:List Od × Int × List Ev} {l':List Od} {left:Int} {ts:List Ev} (htt:tt = tkS c.p) (hs:c.s = 1 ∨ c.s = 2) (hp:prcB c = true) (hm:MI c next qt l' left ts) (h:left = 0 ∨ aI l' (othS c.s) = none ∨ ∃ o,aI l' (othS c.s) = some o∧br c.s tt o = false):qt = (l',left,ts):=by
 subst htt
 rcases h with h | h | ⟨o,h,D⟩
 ·exact mi_done hm (by omega)
 ·exact mi_none hm h
 ·rw [cross_meet hp] at D; exact mi_stop hm h D
def MatEnd (w:World) (v:Value) (l:List Od) (w':World) (v' ve:Value) (qt:List Od × Int × List Ev):Prop :=
 ((v' = v∧qt.1 = l) ∨ ORow w' w.heap.size v' qt.1)∧ERow w' w.heap.size ve qt.2.2∧ym w w'
theorem eRow_base {W:World} {B B':Nat} {v:Value} {l:List Ev} (h:ERow W B v l) (hB:B' ≤ B):ERow W B' v l :=
 ⟨h.1,by
  rcases h.2 with h | ⟨g',c',xp,G,D,h3⟩
  ·exact .inl h
  ·exact .inr ⟨g',c',xp,G,yL hB D,h3⟩⟩
theorem dh (v:Value) (l:List Od) (c:Cm) (next:Int) (w:World) (hr:RdR Od.vs 6 w v l) (hg:GoodL l) (hs:c.s = 1 ∨ c.s = 2) (hp:prcB c = true) (jq:0 ≤ c.q) (qU:c.q ≤ 1000000) :
  Calls Tryz.prog 89 #[v,.agg #[H next,H c.s,H (tkS c.p),H c.q,H c.l,yj c.g]] w fun e w'=>∃ v' ve,e = .returned (.tuple #[v',.agg #[H next,H c.s,H (tkS c.p),H (matL c next 21 l c.q []).2.1,H c.l,yj c.g],ve])∧MatEnd w v l w' v' ve (matL c next 21 l c.q []):=by
 obtain ⟨i0,uE,uF,uK,uV⟩:=info_parts infoEv
 have HMI0:=Y (mi_start (c:=c) (id:=next) hg jq qU)
 have HR:=Y hr
 have kI:=Y hg
 have HS:=Y hs
 have HP:=Y hp
 generalize htt:tkS c.p = tt
 have oh:=Y htt.symm
 generalize matL c next 21 l c.q [] = qt at HMI0 ⊢
 obtain ⟨a,A,rfl,xC,hc⟩:=hr
 obtain ⟨ck,cs,ct,cl,cq,ci,cp,cg⟩:=c
 simp only at hs jq qU htt oh HS ⊢
 clear hc hg hp xC htt
 have xz:=zf w (Obj.cells #[H next,H cs,H tt,H cq,H cl,yj cg] 49)
 have xZ:((w.alloc (Obj.cells #[H next,H cs,H tt,H cq,H cl,yj cg] 49)).alloc (Obj.cells #[H 0,H 0,H 0,H 0,H 0,yj ⟨#[]⟩] 49)).heap.size = w.heap.size + 1 + 1:=by rw [zf,xz]
 have jr:(((w.alloc (Obj.cells #[H next,H cs,H tt,H cq,H cl,yj cg] 49)).alloc (Obj.cells #[H 0,H 0,H 0,H 0,H 0,yj ⟨#[]⟩] 49)).alloc (Obj.cells #[] 46)).heap.size = w.heap.size + 1 + 1 + 1:=by rw [zf,xZ]
 have r1:=zg w [H next,H cs,H tt,H cq,H cl,yj cg] 49
 have t1:=zt w [H next,H cs,H tt,H cq,H cl,yj cg] 49
 have t2:=zt (w.alloc (Obj.cells #[H next,H cs,H tt,H cq,H cl,yj cg] 49)) [H 0,H 0,H 0,H 0,H 0,yj ⟨#[]⟩] 49
 rw [xz] at t2
 have e3:=World.ownsRow_made (base:=w.heap.size + 1 + 1) (e:=46) (size:=14) ((w.alloc (Obj.cells #[H next,H cs,H tt,H cq,H cl,yj cg] 49)).alloc (Obj.cells #[H 0,H 0,H 0,H 0,H 0,yj ⟨#[]⟩] 49)) #[] 0 (by omega) (by decide) rfl
 rw [xZ] at e3
 have b1:=eB w (Obj.cells #[H next,H cs,H tt,H cq,H cl,yj cg] 49)
 have b2:Below (w.heap.size + 1) (w.alloc (Obj.cells #[H next,H cs,H tt,H cq,H cl,yj cg] 49)) ((w.alloc (Obj.cells #[H next,H cs,H tt,H cq,H cl,yj cg] 49)).alloc (Obj.cells #[H 0,H 0,H 0,H 0,H 0,yj ⟨#[]⟩] 49)):=(Below.refl _ _).alloc (by omega) _
 have b3:Below (w.heap.size + 1 + 1) ((w.alloc (Obj.cells #[H next,H cs,H tt,H cq,H cl,yj cg] 49)).alloc (Obj.cells #[H 0,H 0,H 0,H 0,H 0,yj ⟨#[]⟩] 49)) (((w.alloc (Obj.cells #[H next,H cs,H tt,H cq,H cl,yj cg] 49)).alloc (Obj.cells #[H 0,H 0,H 0,H 0,H 0,yj ⟨#[]⟩] 49)).alloc (Obj.cells #[] 46)):=(Below.refl _ _).alloc (by omega) _
 have b23:=b2.trans (b3.mono (by omega))
 have HX:Hid (_∧_∧_∧_):=⟨zb r1 b23 (by omega),ze t1 b23 (by omega),ze t2 b3 (by omega),e3⟩
 have xP:=Y (b1.trans (b23.mono (by omega)))
 have kz:=Y jr
 clear xz xZ jr r1 t1 t2 b1 b2 b3 b23 e3
 go_enter Tryz.func89,Tryz.ntmps89
 refine eF fun hj xq=>?_
 go_wp2_with fail
 refine U xq _ _ ?_
 clear xq
 refine eF fun hj xq=>?_
 go_wp2_with fail
 refine U xq _ _ ?_
 clear xq
 generalize (((w.alloc (Obj.cells #[H next,H cs,H tt,H cq,H cl,yj cg] 49)).alloc (Obj.cells #[H 0,H 0,H 0,H 0,H 0,yj ⟨#[]⟩] 49)).alloc (Obj.cells #[] 46)) = xm at HX xP kz ⊢
 have HX:Hid (xm.rangeAt w.heap.size 0 [H next,H cs,H tt,H cq,H cl,yj cg]∧xm.there w.heap.size 0 6∧xm.there (w.heap.size + 1) 0 6∧xm.ownsRow (w.heap.size + 1 + 1) 46 14 (.slice (some (J (w.heap.size + 1 + 1) 0)) 0 0) 0 []):=U HX
 obtain ⟨c0,c1,c2,c3,c4,c5⟩:=yA (U HX).1
 go_wp2_with fail
 refine (l04Next_any _ l ⟨next,cs,tt,cq,cl,cg⟩ xm (zh (U HR) (U xP) hb) (U kI).rise (by have:=(U kI).len; omega) (U HS)).mono ?_
 rintro e w2 ⟨k,rfl,vY,xS⟩
 have uI:Hid (MaI ⟨ck,cs,ct,cl,cq,ci,cp,cg⟩ next w (.slice a l.length A) l tt qt (2 * l.length + 1) (.slice a l.length A) (.slice (some (J (w.heap.size + 1 + 1) 0)) 0 0) (H k) w2):=by
  have jr:=U kz
  refine ⟨l,cq,[],k,rfl,.inl ⟨rfl,rfl⟩,?_,vY,U HMI0,zb (U HX).1 xS (by omega),ze (U HX).2.1 xS (by omega),ze (U HX).2.2.1 xS (by omega),(U xP).trans (xS.mono (U xP).size),by have:=xS.size; omega,by split <;> omega⟩
  exact zI (l:=[]) (U HX).2.2.2 xS
 clear vY xS c0 c1 c2 c3 c4 c5 HX xP kz HMI0
 go_wp2_with fail
 go_loopg [0,7,8] (2 * l.length + 1) (fun m lv ev kv wr=>MaI ⟨ck,cs,ct,cl,cq,ci,cp,cg⟩ next w (.slice a l.length A) l tt qt m lv ev kv wr)
 case atStart=>exact U uI
 case round =>
  obtain ⟨l',left,ts,kx,rfl,hlv,jU,vY,pH,hrt,ht0,ht1,hbw,qV,hme⟩:=hrel
  have jK:=Y jU
  have HMI:=Y pH
  have og:=Y hrt
  have HT0:=Y ht0
  have qN:=Y ht1
  have xJ:=Y hbw
  have jO:=Y hlv
  have qM:Hid (RdR Od.vs 6 wr u0 l'):=by
   rcases hlv with ⟨rfl,rfl⟩ | h
   ·exact zh (U HR) hbw hb
   ·exact zR h (by have:=pH.good.len; omega)
  have xC:=pH.good.len
  have pE:=pH.l0
  have hl1:=pH.l1
  have hfew:=pH.few
  clear jU hrt ht0 ht1 hbw uI hlv
  rcases vY with ⟨rfl,vX⟩ | ⟨i,o,rfl,hi,ol,hfo,hcr,oV⟩
  ·have HF:=Y (ma_end (U oh) (U HS) (U HP) pH vX)
   clear vX pH
   go_wp2_with fail
   obtain ⟨V0,oS⟩:∃ V:World,V = { wr with drawn:=wr.drawn + 1 }:=⟨_,rfl⟩
   have jO:Hid ((u0 = .slice a l.length A∧l' = l) ∨ ORow V0 (w.heap.size + 1 + 1) u0 l'):=by rw [oS]; exact U jO
   have jK:Hid (ERow V0 (w.heap.size + 1 + 1) u7 ts):=by rw [oS]; exact U jK
   have og:Hid (V0.rangeAt w.heap.size 0 [H next,H cs,H tt,H left,H cl,yj cg]):=by rw [oS]; exact U og
   have qN:Hid (V0.there (w.heap.size + 1) 0 6):=by rw [oS]; exact U qN
   have xJ:Hid (ym w V0):=by rw [oS]; exact (U xJ).trans ⟨rfl,rfl,rfl,Nat.le_refl _,fun _ _=>rfl⟩
   obtain ⟨V1,qi⟩:∃ V:World,V = V0.setCells (w.heap.size + 1) 0 [H next,H cs,H tt,H left,H cl,yj cg]:=⟨_,rfl⟩
   have jE:Hid (V1.rangeAt (w.heap.size + 1) 0 [H next,H cs,H tt,H left,H cl,yj cg]):=by rw [qi]; exact yV V0 _ 0 _ (fun j K=>U qN j K)
   have ua:Hid (MatEnd w (.slice a l.length A) l V1 u0 u7 qt):=by
    rw [U HF]
    refine ⟨?_,?_,?_⟩
    ·rcases U jO with h | h
     ·exact .inl h
     ·exact .inr (by rw [qi]; exact bS (df (by omega) _ _ _ h) (by omega))
    ·rw [qi]
     refine eRow_base (dQ (fun e=>?_) _ _ _ (U jK)) (show w.heap.size ≤ w.heap.size + 1 + 1 by omega)
     have:=((U jK).lt _ e.symm).1
     omega
    ·rw [qi]; exact zm _ (by omega) _ _ _ (U xJ)
   have HFL:Hid (qt.2.1 = left):=by show _ = _; rw [U HF]
   have HV0:=Y oS
   have HV1:=Y qi
   clear oS qi jO jK xJ
   refine zi (R8A (fun f=>{ tmps:=#[u0,.agg #[H next,H cs,H tt,H cq,H cl,yj cg],M,I w.heap.size 0,f 3,I (w.heap.size + 1) 0,f 5,u7,H (-1),u9,.slice (some (J (w.heap.size + 1 + 1) 0)) 0 0,.slice a l.length A,.agg #[H next,H cs,H tt,H cq,H cl,yj cg],H k,H (-1),.bool false,u16,u17,u18,u19,u20,u21,u22,u23,u24,u25,u26,u27,u28,u29,u30,u31,f 0,f 1,f 2],defers:=[] }) u0 (.agg #[H next,H cs,H tt,H left,H cl,yj cg]) u7 V0 V1 V1) (by kernel_rfl) ?_ ?_ ?_
   ·exact ⟨fun j=>if j = 3 then .slice none 0 0 else if j = 5 then .slice none 0 0 else M,rfl,⟨by simp,by simp,by simp,by simp,by simp,fun _=>(U HV0).symm,by simp,by simp⟩⟩
   ·rintro x xj V' ⟨f,rfl,E⟩ hx xL
    have xn:=zO xL hx (by kernel_rfl)
    have e3:=E.f3 (xn 3 (by simp))
    have e5:=E.f5 (xn 5 (by simp))
    have eW:=E.s2 (xn 4 (by simp)) (xn 5 (by simp))
    subst eW
    simp only [e3,e5]
    clear E xn e3 e5 xL hx
    obtain ⟨d0,d1,d2,d3,d4,d5⟩:=yA (U jE)
    go_wp2_with fail
    try simp (config:={ zetaDelta:=true }) only [Exit.noGoto_ret]
    try simp only [Exit.inBlock,Exit.then]
    refine bodyPost_ret (by simp [results,Tryz.results89,go_sem,d0,d1,d2,d3,d4,d5]; try rfl) rfl ?_
    exact ⟨u0,u7,by rw [U HFL],U ua⟩
   ·rintro x xj V' i' o' ⟨f,rfl,E⟩ X hx Z xu Q
    have n5:i' < 5→x[5]? = some false:=fun xI=>by
     rcases bH hx (show 5 < 6 by omega) with h | h
     ·exact h
     ·have:=X 5 _ rfl h ⟨i',.phase⟩ (by rcases (by omega:i' = 0 ∨ i' = 1 ∨ i' = 2 ∨ i' = 3 ∨ i' = 4) with rfl | rfl | rfl | rfl | rfl <;> simp) rfl
      rw [xu] at this; cases this
    have n4:i' = 0 ∨ i' = 1 ∨ i' = 3→x[4]? = some false:=fun xI=>by
     rcases bH hx (show 4 < 6 by omega) with h | h
     ·exact h
     ·have:=X 4 _ rfl h ⟨i',.phase⟩ (by rcases xI with rfl | rfl | rfl <;> simp) rfl
      rw [xu] at this; cases this
    have xw:=Y E
    clear X
    match i',Z with
    | 0,Z =>
     obtain rfl:=ya Z
     clear Q E
     rw [if_pos (by rfl)];unfold Oper.wp;go_simp
     exact ⟨upd f 0 u0,by simp [upd],r8_val (U xw) 0 _ (by omega) (fun _=>rfl) (by omega) (by omega) (by omega)⟩
    | 1,Z =>
     obtain rfl:=ya Z
     have eV:=E.s0 (n4 (by omega))
     subst eV
     obtain ⟨c0,c1,c2,c3,c4,c5⟩:=yA (U og)
     clear Q E
     rw [if_pos (by rfl)];unfold Oper.wp;go_simp
     exact ⟨upd f 1 (.agg #[H next,H cs,H tt,H left,H cl,yj cg]),by simp [upd],r8_val (U xw) 1 _ (by omega) (by omega) (fun _=>rfl) (by omega) (by omega)⟩
    | 2,Z =>
     obtain rfl:=ya Z
     clear Q E
     rw [if_pos (by rfl)];unfold Oper.wp;go_simp
     exact ⟨upd f 2 u7,by simp [upd],r8_val (U xw) 2 _ (by omega) (by omega) (by omega) (fun _=>rfl) (by omega)⟩
    | 3,Z =>
     obtain rfl:=ya Z
     have g0:=E.f0 (yd Q 0 rfl)
     clear Q E
     rw [if_pos (by rfl)];unfold Oper.wp;go_simp
     exact ⟨upd f 3 u0,by simp [upd,g0],r8_val (U xw) 3 _ (by omega) (by omega) (by omega) (by omega) (fun _=>rfl)⟩
    | 4,Z =>
     obtain rfl:=ya Z
     have g1:=E.f1 (yd Q 1 rfl)
     have eV:=E.s0 xu
     subst eV
     have xE:=U qN
     obtain ⟨y0,z0,q0⟩:=zc xE (j:=0) (by omega)
     obtain ⟨y1,z1,q1⟩:=zc xE (j:=1) (by omega)
     obtain ⟨y2,z2,q2⟩:=zc xE (j:=2) (by omega)
     obtain ⟨y3,z3,q3⟩:=zc xE (j:=3) (by omega)
     obtain ⟨y4,z4,q4⟩:=zc xE (j:=4) (by omega)
     obtain ⟨y5,z5,q5⟩:=zc xE (j:=5) (by omega)
     have n5':=n5 (by omega)
     clear Q E xE
     rw [if_pos (by rfl)];unfold Oper.wp;go_simp
     have HR4:=r8_4 (U xw) xu n5'
     conv at HR4=>arg 9; rw [U HV1]
     exact ⟨f,by simp [g1],HR4⟩
    | 5,Z =>
     obtain rfl:=ya Z
     have g2:=E.f2 (yd Q 2 rfl)
     have k4:x[4]? = some true:=Q ⟨4,.chain⟩ (by simp) rfl
     have eV:=E.s1 k4 xu
     subst eV
     have pY:=r8_5 (U xw) k4 xu
     clear Q E
     rw [if_pos (by rfl)];unfold Oper.wp;go_simp
     exact ⟨upd f 5 u7,by simp [upd,g2],pY⟩
    | i' + 6,Z=>simp at Z
  ·have h0:0 < left:=by simp only at oV; omega
   obtain ⟨k2,_,hk2,hmi2,hme2⟩:=mi_step pH h0 hfo (by rw [← cross_meet (U HP),← U oh]; exact hcr)
   obtain rfl:i = k2:=rise_id pH.good.rise ol hk2 rfl
   have Z:=pH.good.left o (yM ol)
   have HMI2:=Y hmi2
   have HIO:=Y ol
   clear hmi2 pH hfo hcr oV hk2 ol
   have hii:(0:Int) ≤ i:=by omega
   refine eF fun hj xq=>?_
   go_wp2_with fail
   refine U xq _ _ ?_
   clear xq
   refine eF fun hj xq=>?_
   refine wp_block ?_
   refine eF fun K2 qZ=>?_
   have hsf:=sfl
   go_wp2_with fail
   refine U qZ _ _ ?_
   clear qZ
   have vn:=eB wr (Obj.cells #[H 0,H 0,H 0,H 0,H 0,H 0,H 0,yi 0,yj ⟨#[]⟩,H 0,H 0,H 0,H 0,H 0] 46)
   have hsY:=zf wr (Obj.cells #[H 0,H 0,H 0,H 0,H 0,H 0,H 0,yi 0,yj ⟨#[]⟩,H 0,H 0,H 0,H 0,H 0] 46)
   have og:=Y (zb (U og) vn (by omega))
   have HT0:=Y (ze (U HT0) vn (by omega))
   have qN:=Y (ze (U qN) vn (by omega))
   have HER2:=Y (zI (U jK) vn)
   have jt:Hid (∀ g,u7.ownBlock = some g→w.heap.size + 1 + 1 ≤ g∧g < wr.heap.size):=fun g hg=>(U jK).lt g hg
   have qM:=Y (zh (U qM) vn hb)
   have HTE:=Y (zt wr [H 0,H 0,H 0,H 0,H 0,H 0,H 0,yi 0,yj ⟨#[]⟩,H 0,H 0,H 0,H 0,H 0] 46)
   have xJ:=Y (eE (U xJ) vn)
   clear vn jK jO
   have HTE:Hid (World.there (wr.alloc (Obj.cells #[H 0,H 0,H 0,H 0,H 0,H 0,H 0,yi 0,yj ⟨#[]⟩,H 0,H 0,H 0,H 0,H 0] 46)) wr.heap.size 0 14):=U HTE
   generalize wr.alloc (Obj.cells #[H 0,H 0,H 0,H 0,H 0,H 0,H 0,yi 0,yj ⟨#[]⟩,H 0,H 0,H 0,H 0,H 0] 46) = yb at og HT0 qN HER2 qM HTE xJ hsY ⊢
   generalize wr.heap.size = hR at jt HTE hsY qV ⊢
   obtain ⟨c0,c1,c2,c3,c4,c5⟩:=yA (U og)
   refine eF fun K2 qZ=>?_
   go_wp2_with fail
   refine (l04Hit_any _ l' ⟨next,cs,tt,left,cl,cg⟩ o i yb (U qM) (by omega) (U HIO) pE hl1 (by omega) Z.2).mono ?_
   rintro e w2 ⟨v2,rfl,ho2,xS⟩
   simp only [Od.vs,Ev.vs,trE,zCm]
   simp only at ho2
   have hq0':0 ≤ min left o.left:=by omega
   generalize min left o.left = q at ho2 HMI2 hme2 hq0' ⊢
   have vV:=Y ho2
   have xD:=Y xS
   have hTa:=ze (U HT0) xS (by omega)
   have oR:=ze (U HTE) xS (by omega)
   have qO:=Y hTa
   have HTB:=Y oR
   have HT1':=Y (ze (U qN) xS (by omega))
   have HER3:=Y (zI (U HER2) xS)
   have HBW2:=Y (eE (U xJ) xS)
   have xZ:=xS.size
   obtain ⟨ya0,za0,qa0⟩:=zc hTa (j:=0) (by omega)
   obtain ⟨ya1,za1,qa1⟩:=zc hTa (j:=1) (by omega)
   obtain ⟨ya2,za2,qa2⟩:=zc hTa (j:=2) (by omega)
   obtain ⟨ya3,za3,qa3⟩:=zc hTa (j:=3) (by omega)
   obtain ⟨ya4,za4,qa4⟩:=zc hTa (j:=4) (by omega)
   obtain ⟨ya5,za5,qa5⟩:=zc hTa (j:=5) (by omega)
   obtain ⟨yb0,zb0,qb0⟩:=zc oR (j:=0) (by omega)
   obtain ⟨yb1,zb1,qb1⟩:=zc oR (j:=1) (by omega)
   obtain ⟨yb2,zb2,qb2⟩:=zc oR (j:=2) (by omega)
   obtain ⟨yb3,zb3,qb3⟩:=zc oR (j:=3) (by omega)
   obtain ⟨yb4,zb4,qb4⟩:=zc oR (j:=4) (by omega)
   obtain ⟨yb5,zb5,qb5⟩:=zc oR (j:=5) (by omega)
   obtain ⟨yb6,zb6,qb6⟩:=zc oR (j:=6) (by omega)
   obtain ⟨yb7,zb7,qb7⟩:=zc oR (j:=7) (by omega)
   obtain ⟨yb8,zb8,qb8⟩:=zc oR (j:=8) (by omega)
   obtain ⟨yb9,zb9,qb9⟩:=zc oR (j:=9) (by omega)
   obtain ⟨yb10,zb10,qb10⟩:=zc oR (j:=10) (by omega)
   obtain ⟨yb11,zb11,qb11⟩:=zc oR (j:=11) (by omega)
   obtain ⟨yb12,zb12,qb12⟩:=zc oR (j:=12) (by omega)
   obtain ⟨yb13,zb13,qb13⟩:=zc oR (j:=13) (by omega)
   have hES:hR ≠ w.heap.size:=by omega
   have hSE:w.heap.size ≠ hR:=by omega
   clear c0 c1 c2 c3 c4 c5 ho2 xS hTa oR HT0 HTE qN HER2 xJ qM og
   go_wp2_with fail
   refine U qZ _ _ ?_
   clear qZ za0 qa0 za1 qa1 za2 qa2 za3 qa3 za4 qa4 za5 qa5 zb0 qb0 zb1 qb1 zb2 qb2 zb3 qb3 zb4 qb4 zb5 qb5 zb6 qb6 zb7 qb7 zb8 qb8 zb9 qb9 zb10 qb10 zb11 qb11 zb12 qb12 zb13 qb13
   have eW:((((((((((((((((((((w2.setCell (J w.heap.size 0) (H next)).setCell (J w.heap.size 1) (H cs)).setCell (J w.heap.size 2) (H tt)).setCell (J w.heap.size 3) (H (left - q))).setCell (J w.heap.size 4) (H cl)).setCell (J w.heap.size 5) (yj cg)).setCell (J hR 0) (H 3)).setCell (J hR 1) (H 0)).setCell (J hR 2) (H 0)).setCell (J hR 3) (H 0)).setCell (J hR 4) (H 0)).setCell (J hR 5) (H 0)).setCell (J hR 6) (H 0)).setCell (J hR 7) (yi 0)).setCell (J hR 8) (yj ⟨#[]⟩)).setCell (J hR 9) (H next)).setCell (J hR 10) (H o.id)).setCell (J hR 11) (H q)).setCell (J hR 12) (H o.ticks)).setCell (J hR 13) (H 0)) = (w2.setCells w.heap.size 0 [H next,H cs,H tt,H (left - q),H cl,yj cg]).setCells hR 0 [H 3,H 0,H 0,H 0,H 0,H 0,H 0,yi 0,yj ⟨#[]⟩,H next,H o.id,H q,H o.ticks,H 0]:=rfl
   rw [eW]
   clear eW
   obtain ⟨V1,qi⟩:∃ V:World,V = w2.setCells w.heap.size 0 [H next,H cs,H tt,H (left - q),H cl,yj cg]:=⟨_,rfl⟩
   rw [← qi]
   have jE:Hid (V1.rangeAt w.heap.size 0 [H next,H cs,H tt,H (left - q),H cl,yj cg]):=by rw [qi]; exact yV w2 _ 0 _ (fun j K=>U qO j K)
   have kw:Hid (V1.there w.heap.size 0 6):=by rw [qi]; exact yZ (U qO) _ _ _
   have uN:Hid (V1.there (w.heap.size + 1) 0 6):=by rw [qi]; exact yZ (U HT1') _ _ _
   have qf:Hid (V1.there hR 0 14):=by rw [qi]; exact yZ (U HTB) _ _ _
   have vl:Hid (ORow V1 yb.heap.size v2 (aB l' i o q)):=by rw [qi]; exact df (by omega) _ _ _ (U vV)
   have pf:Hid (ERow V1 (w.heap.size + 1 + 1) u7 ts):=by rw [qi]; exact dQ (fun e=>by have:=(U jt _ e.symm).1; omega) _ _ _ (U HER3)
   have xW:Hid (ym w V1):=by rw [qi]; exact zm _ hb _ _ _ (U HBW2)
   have xz:V1.heap.size = w2.heap.size:=by rw [qi,bK]
   clear qi
   obtain ⟨V2,kC⟩:∃ V:World,V = V1.setCells hR 0 [H 3,H 0,H 0,H 0,H 0,H 0,H 0,yi 0,yj ⟨#[]⟩,H next,H o.id,H q,H o.ticks,H 0]:=⟨_,rfl⟩
   rw [← kC]
   have vH:Hid (V2.rangeAt hR 0 [H 3,H 0,H 0,H 0,H 0,H 0,H 0,yi 0,yj ⟨#[]⟩,H next,H o.id,H q,H o.ticks,H 0]):=by rw [kC]; exact yV V1 _ 0 _ (fun j K=>U qf j K)
   have ow:Hid (V2.rangeAt w.heap.size 0 [H next,H cs,H tt,H (left - q),H cl,yj cg]):=by rw [kC]; exact dX (U jE) (by omega)
   have HG4:Hid (V2.there w.heap.size 0 6):=by rw [kC]; exact yZ (U kw) _ _ _
   have jC:Hid (V2.there (w.heap.size + 1) 0 6):=by rw [kC]; exact yZ (U uN) _ _ _
   have qL:Hid (ORow V2 yb.heap.size v2 (aB l' i o q)):=by rw [kC]; exact df (by omega) _ _ _ (U vl)
   have oO:Hid (ERow V2 (w.heap.size + 1 + 1) u7 ts):=by rw [kC]; exact dQ (fun e=>by have:=(U jt _ e.symm).2; omega) _ _ _ (U pf)
   have xY:Hid (ym w V2):=by rw [kC]; exact zm _ (by omega) _ _ _ (U xW)
   have hs4:yb.heap.size ≤ V2.heap.size:=by rw [kC,bK,xz]; exact xZ
   clear kC jE kw uN qf vl pf xW xz vV xD qO HTB HT1' HER3 HBW2
   obtain ⟨e0,e1,e2,e3,e4,e5,e6,e7,e8,e9,jR,e11,ak,e13⟩:=yD (U vH)
   have HE3:=Y ((U oO).alloc (Obj.cells #[H 3,H 0,H 0,H 0,H 0,H 0,H 0,yi 0,yj ⟨#[]⟩,H next,H o.id,H q,H o.ticks,H 0] 46))
   have hs5:V2.heap.size + 1 ≤ (V2.alloc (Obj.cells #[H 3,H 0,H 0,H 0,H 0,H 0,H 0,yi 0,yj ⟨#[]⟩,H next,H o.id,H q,H o.ticks,H 0] 46)).heap.size:=Nat.le_of_eq (zf _ _).symm
   have vD:=eB V2 (Obj.cells #[H 3,H 0,H 0,H 0,H 0,H 0,H 0,yi 0,yj ⟨#[]⟩,H next,H o.id,H q,H o.ticks,H 0] 46)
   have vf:Hid (∀ j u,[H 3,H 0,H 0,H 0,H 0,H 0,H 0,yi 0,yj ⟨#[]⟩,H next,H o.id,H q,H o.ticks,H 0][j]? = some u→(V2.alloc (Obj.cells #[H 3,H 0,H 0,H 0,H 0,H 0,H 0,yi 0,yj ⟨#[]⟩,H next,H o.id,H q,H o.ticks,H 0] 46)).cell? (((J V2.heap.size 0):Addr).add j) = some u):=fun j u hu=>bW V2 [H 3,H 0,H 0,H 0,H 0,H 0,H 0,yi 0,yj ⟨#[]⟩,H next,H o.id,H q,H o.ticks,H 0] 46 j u hu
   have oe:=Y (zj (U qL) vD)
   have HR3:=Y (zb (U ow) vD (by omega))
   have ki:=Y (ze (U HG4) vD (by omega))
   have pg:=Y (ze (U jC) vD (by omega))
   have jf:=Y (eE (U xY) vD)
   have HEBv:Hid (∀ g,u7.ownBlock = some g→w.heap.size + 1 + 1 ≤ g):=fun g hg=>(U jt g hg).1
   clear vD qL ow HG4 jC xY jt
   go_wp2_with (at_builtin; go_must (refine wpList_append_own _ rfl _ _ 38 rfl (w.heap.size + 1 + 1) 46 i0 _ 14 120 Tryz.underlying38 uE uF uK uV rfl (by decide) u7 ts.length (ts.flatMap Ev.vs) rfl (U HE3) (J V2.heap.size 0) 1 1 [H 3,H 0,H 0,H 0,H 0,H 0,H 0,yi 0,yj ⟨#[]⟩,H next,H o.id,H q,H o.ticks,H 0] rfl rfl (U vf) (by simp [Value.oneCell']) (by unfold maxLen; omega) (by omega) (by omega) ?_); intro v5 w5 vA au _; have kL:=Y vA; have jC:=Y au; clear vA au)
   have HRO:=Y ((U oe).kept (U jC) (zC (U oe) (U HE3) (by decide)))
   have jD:Hid (∀ b,b < w.heap.size + 1 + 1→some b ≠ u7.ownBlock):=fun b O e=>by have:=U HEBv b e.symm; omega
   have pj:=Y (zu (U HR3) (U jC) (by omega) (U jD _ (by omega)))
   have HT5:=Y (bw (U ki) (U jC) (by omega) (U jD _ (by omega)))
   have jh:=Y (bw (U pg) (U jC) (by omega) (U jD _ (by omega)))
   have jd:=Y ((U jf).grown (U jC) (U jf).size (fun k hk=>by have:=U HEBv k hk; omega))
   have hs6:=(U jC).size
   have qD:Hid (ERow w5 (w.heap.size + 1 + 1) v5 (ts ++ [trE next o.id q o.ticks])):=by
    show w5.ownsRow _ _ _ _ (ts ++ [trE next o.id q o.ticks]).length _
    rw [yN,List.flatMap_append]
    have:=U kL
    simpa [Ev.vs,trE,zCm] using this
   obtain ⟨x0,x1,x2,x3,x4,x5⟩:=yA (U pj)
   try simp only [Exit.inBlock,Exit.then]
   refine U xq _ _ ?_
   clear xq HE3 vf oe HR3 ki pg jf jC kL e0 e1 e2 e3 e4 e5 e6 e7 e8 e9 jR e11 ak e13
   have oD:=(U HMI2).good
   have hln:=oD.len
   go_wp2_with fail
   refine (l04Next_any v2 (aB l' i o q) ⟨next,cs,tt,left - q,cl,cg⟩ w5 (zR (U HRO) (by omega)) oD.rise (by omega) (U HS)).mono ?_
   rintro e w6 ⟨k6,rfl,hnx6,jl⟩
   have HN:Hid (MaI ⟨ck,cs,ct,cl,cq,ci,cp,cg⟩ next w (.slice a l.length A) l tt qt (2 * (aB l' i o q).length + (if 0 < left - q then 1 else 0)) v2 v5 (H k6) w6) :=
    ⟨aB l' i o q,left - q,ts ++ [trE next o.id q o.ticks],k6,rfl,.inr (bS (zj (U HRO) jl) (by omega)),zI (U qD) jl,hnx6,U HMI2,zb (U pj) jl (by omega),ze (U HT5) jl (by omega),ze (U jh) jl (by omega),(U jd).trans (jl.mono (U jd).size),by have:=jl.size; omega,Nat.le_refl _⟩
   clear hnx6 jl
   go_wp2_with fail
   go_roundg (2 * (aB l' i o q).length + (if 0 < left - q then 1 else 0))
   case measure=>rw [if_pos h0] at hme; omega
   case rel=>exact U HN
end Go.Proofs.YtbakanofkghmiaaGreat
