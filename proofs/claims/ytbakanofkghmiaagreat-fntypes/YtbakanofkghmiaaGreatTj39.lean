/-
  A taker trades as far as it goes, by the model: proved by walking the function.
-/
import Derived.Test.YtbakanofkghmiaaGreatTj38
set_option linter.unusedVariables false
set_option maxHeartbeats 6400000
set_option maxRecDepth 100000
namespace Go.Proofs.YtbakanofkghmiaaGreat
open Go.RowKit
theorem cQ {B b:Nat} {v:Value} {l:List Ev} (F:some b ≠ v.ownBlock):∀ (vs:List Value) (o:Nat) (W:World),ERow W B v l→ERow (W.setCells b o vs) B v l
 | [],_,_,h=>h
 | u :: us,o,W,h=>by rw [World.setCells]; exact cQ F us (o + 1) _ (zr h F o u)
def MaI (c:Cm) (next:Int) (w:World) (v:Value) (l:List Od) (tt:Int) (hb:List Od × Int × List Ev) (m:Nat) (lv ev kv:Value) (wr:World):Prop :=
 ∃ (l':List Od) (left:Int) (ts:List Ev) (k:Int),kv = H k∧((lv = v∧l' = l) ∨ ORow wr (w.heap.size + 1 + 1) lv l')∧ERow wr (w.heap.size + 1 + 1) ev ts∧NexS l' ⟨next,c.s,tt,left,c.l,c.g⟩ k∧MI c next hb l' left ts ∧
  wr.rangeAt w.heap.size 0 [H next,H c.s,H tt,H left,H c.l,yj c.g]∧wr.there w.heap.size 0 6∧wr.there (w.heap.size + 1) 0 6∧ym w wr∧w.heap.size + 1 + 1 ≤ wr.heap.size∧2 * l'.length + (if 0 < left then 1 else 0) ≤ m
theorem ma_end {c:Cm} {next tt:Int} {hb:List Od × Int × List Ev} {l':List Od} {left:Int} {ts:List Ev} (htt:tt = tkS c.p) (hs:c.s = 1 ∨ c.s = 2) (hp:prcB c = true) (hm:MI c next hb l' left ts) (h:left = 0 ∨ pW l' (othS c.s) = none ∨ ∃ o,pW l' (othS c.s) = some o∧aD c.s tt o = false):hb = (l',left,ts):=by
 subst htt
 rcases h with h | h | ⟨o,h,N⟩
 ·exact mi_done hm (by omega)
 ·exact mi_none hm h
 ·rw [cross_meet hp] at N; exact mi_stop hm h N
def MatEnd (w:World) (v:Value) (l:List Od) (w':World) (v' ve:Value) (hb:List Od × Int × List Ev):Prop :=
 ((v' = v∧hb.1 = l) ∨ ORow w' w.heap.size v' hb.1)∧ERow w' w.heap.size ve hb.2.2∧ym w w'
theorem eRow_base {W:World} {B B':Nat} {v:Value} {l:List Ev} (h:ERow W B v l) (hB:B' ≤ B):ERow W B' v l :=
 ⟨h.1,by
  rcases h.2 with h | ⟨g',c',xp,Q,N,h3⟩
  ·exact .inl h
  ·exact .inr ⟨g',c',xp,Q,yL hB N,h3⟩⟩
theorem bV (v:Value) (l:List Od) (c:Cm) (next:Int) (w:World) (hr:RdR Od.vs 6 w v l) (hg:GoodL l) (hs:c.s = 1 ∨ c.s = 2) (hp:prcB c = true) (jf:0 ≤ c.q) (qW:c.q ≤ 1000000) :
  Calls Tryz.prog 89 #[v,.agg #[H next,H c.s,H (tkS c.p),H c.q,H c.l,yj c.g]] w fun e w'=>∃ v' ve,e = .returned (.tuple #[v',.agg #[H next,H c.s,H (tkS c.p),H (matL c next 21 l c.q []).2.1,H c.l,yj c.g],ve])∧MatEnd w v l w' v' ve (matL c next 21 l c.q []):=by
 obtain ⟨i0,uz,uA,uF,uR⟩:=info_parts infoEv
 have HMI0:=Y (mi_start (c:=c) (id:=next) hg jf qW)
 have HR:=Y hr
 have kj:=Y hg
 have HS:=Y hs
 have HP:=Y hp
 generalize htt:tkS c.p = tt
 have kO:=Y htt.symm
 generalize matL c next 21 l c.q [] = hb at HMI0 ⊢
 obtain ⟨a,E,rfl,xB,hc⟩:=hr
 obtain ⟨ck,cs,ct,cl,cq,ci,cp,cg⟩:=c
 simp only at hs jf qW htt kO HS ⊢
 clear hc hg hp xB htt
 have xy:=zf w (Obj.cells #[H next,H cs,H tt,H cq,H cl,yj cg] 49)
 have xY:((w.alloc (Obj.cells #[H next,H cs,H tt,H cq,H cl,yj cg] 49)).alloc (Obj.cells #[H 0,H 0,H 0,H 0,H 0,yj ⟨#[]⟩] 49)).heap.size = w.heap.size + 1 + 1:=by rw [zf,xy]
 have jg:(((w.alloc (Obj.cells #[H next,H cs,H tt,H cq,H cl,yj cg] 49)).alloc (Obj.cells #[H 0,H 0,H 0,H 0,H 0,yj ⟨#[]⟩] 49)).alloc (Obj.cells #[] 46)).heap.size = w.heap.size + 1 + 1 + 1:=by rw [zf,xY]
 have r1:=zg w [H next,H cs,H tt,H cq,H cl,yj cg] 49
 have t1:=zt w [H next,H cs,H tt,H cq,H cl,yj cg] 49
 have t2:=zt (w.alloc (Obj.cells #[H next,H cs,H tt,H cq,H cl,yj cg] 49)) [H 0,H 0,H 0,H 0,H 0,yj ⟨#[]⟩] 49
 rw [xy] at t2
 have e3:=World.ownsRow_made (base:=w.heap.size + 1 + 1) (e:=46) (size:=14) ((w.alloc (Obj.cells #[H next,H cs,H tt,H cq,H cl,yj cg] 49)).alloc (Obj.cells #[H 0,H 0,H 0,H 0,H 0,yj ⟨#[]⟩] 49)) #[] 0 (by omega) (by decide) rfl
 rw [xY] at e3
 have b1:=dm w (Obj.cells #[H next,H cs,H tt,H cq,H cl,yj cg] 49)
 have b2:Below (w.heap.size + 1) (w.alloc (Obj.cells #[H next,H cs,H tt,H cq,H cl,yj cg] 49)) ((w.alloc (Obj.cells #[H next,H cs,H tt,H cq,H cl,yj cg] 49)).alloc (Obj.cells #[H 0,H 0,H 0,H 0,H 0,yj ⟨#[]⟩] 49)):=(Below.refl _ _).alloc (by omega) _
 have b3:Below (w.heap.size + 1 + 1) ((w.alloc (Obj.cells #[H next,H cs,H tt,H cq,H cl,yj cg] 49)).alloc (Obj.cells #[H 0,H 0,H 0,H 0,H 0,yj ⟨#[]⟩] 49)) (((w.alloc (Obj.cells #[H next,H cs,H tt,H cq,H cl,yj cg] 49)).alloc (Obj.cells #[H 0,H 0,H 0,H 0,H 0,yj ⟨#[]⟩] 49)).alloc (Obj.cells #[] 46)):=(Below.refl _ _).alloc (by omega) _
 have b23:=b2.trans (b3.mono (by omega))
 have HX:Hid (_∧_∧_∧_):=⟨zb r1 b23 (by omega),ze t1 b23 (by omega),ze t2 b3 (by omega),e3⟩
 have xW:=Y (b1.trans (b23.mono (by omega)))
 have km:=Y jg
 clear xy xY jg r1 t1 t2 b1 b2 b3 b23 e3
 go_enter Tryz.func89,Tryz.ntmps89
 refine ds fun tg xq=>?_
 go_wp2_with fail
 refine U xq _ _ ?_
 clear xq
 refine ds fun tg xq=>?_
 go_wp2_with fail
 refine U xq _ _ ?_
 clear xq
 generalize (((w.alloc (Obj.cells #[H next,H cs,H tt,H cq,H cl,yj cg] 49)).alloc (Obj.cells #[H 0,H 0,H 0,H 0,H 0,yj ⟨#[]⟩] 49)).alloc (Obj.cells #[] 46)) = hD at HX xW km ⊢
 have HX:Hid (hD.rangeAt w.heap.size 0 [H next,H cs,H tt,H cq,H cl,yj cg]∧hD.there w.heap.size 0 6∧hD.there (w.heap.size + 1) 0 6∧hD.ownsRow (w.heap.size + 1 + 1) 46 14 (.slice (some (J (w.heap.size + 1 + 1) 0)) 0 0) 0 []):=U HX
 obtain ⟨c0,c1,c2,c3,c4,c5⟩:=yA (U HX).1
 go_wp2_with fail
 refine (l04Next_any _ l ⟨next,cs,tt,cq,cl,cg⟩ hD (zl (U HR) (U xW) qt) (U kj).rise (by have:=(U kj).len; omega) (U HS)).mono ?_
 rintro e w2 ⟨k,rfl,vQ,xU⟩
 have uE:Hid (MaI ⟨ck,cs,ct,cl,cq,ci,cp,cg⟩ next w (.slice a l.length E) l tt hb (2 * l.length + 1) (.slice a l.length E) (.slice (some (J (w.heap.size + 1 + 1) 0)) 0 0) (H k) w2):=by
  have jg:=U km
  refine ⟨l,cq,[],k,rfl,.inl ⟨rfl,rfl⟩,?_,vQ,U HMI0,zb (U HX).1 xU (by omega),ze (U HX).2.1 xU (by omega),ze (U HX).2.2.1 xU (by omega),(U xW).trans (xU.mono (U xW).size),by have:=xU.size; omega,by split <;> omega⟩
  exact zG (l:=[]) (U HX).2.2.2 xU
 clear vQ xU c0 c1 c2 c3 c4 c5 HX xW km HMI0
 go_wp2_with fail
 go_loopg [0,7,8] (2 * l.length + 1) (fun m lv ev kv wr=>MaI ⟨ck,cs,ct,cl,cq,ci,cp,cg⟩ next w (.slice a l.length E) l tt hb m lv ev kv wr)
 case atStart=>exact U uE
 case round =>
  obtain ⟨l',left,ts,kx,rfl,hlv,jL,vQ,hmi,hrt,ht0,ht1,hbw,qM,hme⟩:=hrel
  have jA:=Y jL
  have HMI:=Y hmi
  have kN:=Y hrt
  have HT0:=Y ht0
  have qY:=Y ht1
  have xJ:=Y hbw
  have jF:=Y hlv
  have qX:Hid (RdR Od.vs 6 wr u0 l'):=by
   rcases hlv with ⟨rfl,rfl⟩ | h
   ·exact zl (U HR) hbw qt
   ·exact zK h (by have:=hmi.good.len; omega)
  have xB:=hmi.good.len
  have oo:=hmi.l0
  have hl1:=hmi.l1
  have hfew:=hmi.few
  clear jL hrt ht0 ht1 hbw uE hlv
  rcases vQ with ⟨rfl,vP⟩ | ⟨i,o,rfl,hi,kR,hfo,hcr,oJ⟩
  ·have HF:=Y (ma_end (U kO) (U HS) (U HP) hmi vP)
   clear vP hmi
   go_wp2_with fail
   obtain ⟨V0,oG⟩:∃ V:World,V = { wr with drawn:=wr.drawn + 1 }:=⟨_,rfl⟩
   have jF:Hid ((u0 = .slice a l.length E∧l' = l) ∨ ORow V0 (w.heap.size + 1 + 1) u0 l'):=by rw [oG]; exact U jF
   have jA:Hid (ERow V0 (w.heap.size + 1 + 1) u7 ts):=by rw [oG]; exact U jA
   have kN:Hid (V0.rangeAt w.heap.size 0 [H next,H cs,H tt,H left,H cl,yj cg]):=by rw [oG]; exact U kN
   have qY:Hid (V0.there (w.heap.size + 1) 0 6):=by rw [oG]; exact U qY
   have xJ:Hid (ym w V0):=by rw [oG]; exact (U xJ).trans ⟨rfl,rfl,rfl,Nat.le_refl _,fun _ _=>rfl⟩
   obtain ⟨V1,qb⟩:∃ V:World,V = V0.setCells (w.heap.size + 1) 0 [H next,H cs,H tt,H left,H cl,yj cg]:=⟨_,rfl⟩
   have ju:Hid (V1.rangeAt (w.heap.size + 1) 0 [H next,H cs,H tt,H left,H cl,yj cg]):=by rw [qb]; exact yV V0 _ 0 _ (fun j R=>U qY j R)
   have uj:Hid (MatEnd w (.slice a l.length E) l V1 u0 u7 hb):=by
    rw [U HF]
    refine ⟨?_,?_,?_⟩
    ·rcases U jF with h | h
     ·exact .inl h
     ·exact .inr (by rw [qb]; exact aV (bU (by omega) _ _ _ h) (by omega))
    ·rw [qb]
     refine eRow_base (cQ (fun e=>?_) _ _ _ (U jA)) (show w.heap.size ≤ w.heap.size + 1 + 1 by omega)
     have:=((U jA).lt _ e.symm).1
     omega
    ·rw [qb]; exact zm _ (by omega) _ _ _ (U xJ)
   have HFL:Hid (hb.2.1 = left):=by show _ = _; rw [U HF]
   have HV0:=Y oG
   have HV1:=Y qb
   clear oG qb jF jA xJ
   refine zh (R8A (fun f=>{ tmps:=#[u0,.agg #[H next,H cs,H tt,H cq,H cl,yj cg],M,I w.heap.size 0,f 3,I (w.heap.size + 1) 0,f 5,u7,H (-1),u9,.slice (some (J (w.heap.size + 1 + 1) 0)) 0 0,.slice a l.length E,.agg #[H next,H cs,H tt,H cq,H cl,yj cg],H k,H (-1),.bool false,u16,u17,u18,u19,u20,u21,u22,u23,u24,u25,u26,u27,u28,u29,u30,u31,f 0,f 1,f 2],defers:=[] }) u0 (.agg #[H next,H cs,H tt,H left,H cl,yj cg]) u7 V0 V1 V1) (by kernel_rfl) ?_ ?_ ?_
   ·exact ⟨fun j=>if j = 3 then .slice none 0 0 else if j = 5 then .slice none 0 0 else M,rfl,⟨by simp,by simp,by simp,by simp,by simp,fun _=>(U HV0).symm,by simp,by simp⟩⟩
   ·rintro x hR V' ⟨f,rfl,A⟩ hx xM
    have xn:=zO xM hx (by kernel_rfl)
    have e3:=A.f3 (xn 3 (by simp))
    have e5:=A.f5 (xn 5 (by simp))
    have eW:=A.s2 (xn 4 (by simp)) (xn 5 (by simp))
    subst eW
    simp only [e3,e5]
    clear A xn e3 e5 xM hx
    obtain ⟨d0,d1,d2,d3,d4,d5⟩:=yA (U ju)
    go_wp2_with fail
    try simp (config:={ zetaDelta:=true }) only [Exit.noGoto_ret]
    try simp only [Exit.inBlock,Exit.then]
    refine bodyPost_ret (by simp [results,Tryz.results89,go_sem,d0,d1,d2,d3,d4,d5]; try rfl) rfl ?_
    exact ⟨u0,u7,by rw [U HFL],U uj⟩
   ·rintro x hR V' i' o' ⟨f,rfl,A⟩ L hx Z xu G
    have n5:i' < 5→x[5]? = some false:=fun xH=>by
     rcases aN hx (show 5 < 6 by omega) with h | h
     ·exact h
     ·have:=L 5 _ rfl h ⟨i',.phase⟩ (by rcases (by omega:i' = 0 ∨ i' = 1 ∨ i' = 2 ∨ i' = 3 ∨ i' = 4) with rfl | rfl | rfl | rfl | rfl <;> simp) rfl
      rw [xu] at this; cases this
    have n4:i' = 0 ∨ i' = 1 ∨ i' = 3→x[4]? = some false:=fun xH=>by
     rcases aN hx (show 4 < 6 by omega) with h | h
     ·exact h
     ·have:=L 4 _ rfl h ⟨i',.phase⟩ (by rcases xH with rfl | rfl | rfl <;> simp) rfl
      rw [xu] at this; cases this
    have xw:=Y A
    clear L
    match i',Z with
    | 0,Z =>
     obtain rfl:=ya Z
     clear G A
     rw [if_pos (by rfl)];unfold Oper.wp;go_simp
     exact ⟨upd f 0 u0,by simp [upd],r8_val (U xw) 0 _ (by omega) (fun _=>rfl) (by omega) (by omega) (by omega)⟩
    | 1,Z =>
     obtain rfl:=ya Z
     have eV:=A.s0 (n4 (by omega))
     subst eV
     obtain ⟨c0,c1,c2,c3,c4,c5⟩:=yA (U kN)
     clear G A
     rw [if_pos (by rfl)];unfold Oper.wp;go_simp
     exact ⟨upd f 1 (.agg #[H next,H cs,H tt,H left,H cl,yj cg]),by simp [upd],r8_val (U xw) 1 _ (by omega) (by omega) (fun _=>rfl) (by omega) (by omega)⟩
    | 2,Z =>
     obtain rfl:=ya Z
     clear G A
     rw [if_pos (by rfl)];unfold Oper.wp;go_simp
     exact ⟨upd f 2 u7,by simp [upd],r8_val (U xw) 2 _ (by omega) (by omega) (by omega) (fun _=>rfl) (by omega)⟩
    | 3,Z =>
     obtain rfl:=ya Z
     have g0:=A.f0 (yd G 0 rfl)
     clear G A
     rw [if_pos (by rfl)];unfold Oper.wp;go_simp
     exact ⟨upd f 3 u0,by simp [upd,g0],r8_val (U xw) 3 _ (by omega) (by omega) (by omega) (by omega) (fun _=>rfl)⟩
    | 4,Z =>
     obtain rfl:=ya Z
     have g1:=A.f1 (yd G 1 rfl)
     have eV:=A.s0 xu
     subst eV
     have xD:=U qY
     obtain ⟨y0,z0,q0⟩:=zc xD (j:=0) (by omega)
     obtain ⟨y1,z1,q1⟩:=zc xD (j:=1) (by omega)
     obtain ⟨y2,z2,q2⟩:=zc xD (j:=2) (by omega)
     obtain ⟨y3,z3,q3⟩:=zc xD (j:=3) (by omega)
     obtain ⟨y4,z4,q4⟩:=zc xD (j:=4) (by omega)
     obtain ⟨y5,z5,q5⟩:=zc xD (j:=5) (by omega)
     have n5':=n5 (by omega)
     clear G A xD
     rw [if_pos (by rfl)];unfold Oper.wp;go_simp
     have HR4:=r8_4 (U xw) xu n5'
     conv at HR4=>arg 9; rw [U HV1]
     exact ⟨f,by simp [g1],HR4⟩
    | 5,Z =>
     obtain rfl:=ya Z
     have g2:=A.f2 (yd G 2 rfl)
     have k4:x[4]? = some true:=G ⟨4,.chain⟩ (by simp) rfl
     have eV:=A.s1 k4 xu
     subst eV
     have HR5:=r8_5 (U xw) k4 xu
     clear G A
     rw [if_pos (by rfl)];unfold Oper.wp;go_simp
     exact ⟨upd f 5 u7,by simp [upd,g2],HR5⟩
    | i' + 6,Z=>simp at Z
  ·have h0:0 < left:=by simp only at oJ; omega
   obtain ⟨k2,_,hk2,hmi2,hme2⟩:=mi_step hmi h0 hfo (by rw [← cross_meet (U HP),← U kO]; exact hcr)
   obtain rfl:i = k2:=rise_id hmi.good.rise kR hk2 rfl
   have Z:=hmi.good.left o (yM kR)
   have HMI2:=Y hmi2
   have HIO:=Y kR
   clear hmi2 hmi hfo hcr oJ hk2 kR
   have hii:(0:Int) ≤ i:=by omega
   refine ds fun tg xq=>?_
   go_wp2_with fail
   refine U xq _ _ ?_
   clear xq
   refine ds fun tg xq=>?_
   refine wp_block ?_
   refine ds fun K2 jQ=>?_
   have hsf:=sfl
   go_wp2_with fail
   refine U jQ _ _ ?_
   clear jQ
   have vi:=dm wr (Obj.cells #[H 0,H 0,H 0,H 0,H 0,H 0,H 0,yi 0,yj ⟨#[]⟩,H 0,H 0,H 0,H 0,H 0] 46)
   have hsY:=zf wr (Obj.cells #[H 0,H 0,H 0,H 0,H 0,H 0,H 0,yi 0,yj ⟨#[]⟩,H 0,H 0,H 0,H 0,H 0] 46)
   have kN:=Y (zb (U kN) vi (by omega))
   have HT0:=Y (ze (U HT0) vi (by omega))
   have qY:=Y (ze (U qY) vi (by omega))
   have HER2:=Y (zG (U jA) vi)
   have ji:Hid (∀ g,u7.ownBlock = some g→w.heap.size + 1 + 1 ≤ g∧g < wr.heap.size):=fun g hg=>(U jA).lt g hg
   have qX:=Y (zl (U qX) vi qt)
   have HTE:=Y (zt wr [H 0,H 0,H 0,H 0,H 0,H 0,H 0,yi 0,yj ⟨#[]⟩,H 0,H 0,H 0,H 0,H 0] 46)
   have xJ:=Y (dq (U xJ) vi)
   clear vi jA jF
   have HTE:Hid (World.there (wr.alloc (Obj.cells #[H 0,H 0,H 0,H 0,H 0,H 0,H 0,yi 0,yj ⟨#[]⟩,H 0,H 0,H 0,H 0,H 0] 46)) wr.heap.size 0 14):=U HTE
   generalize wr.alloc (Obj.cells #[H 0,H 0,H 0,H 0,H 0,H 0,H 0,yi 0,yj ⟨#[]⟩,H 0,H 0,H 0,H 0,H 0] 46) = yb at kN HT0 qY HER2 qX HTE xJ hsY ⊢
   generalize wr.heap.size = xj at ji HTE hsY qM ⊢
   obtain ⟨c0,c1,c2,c3,c4,c5⟩:=yA (U kN)
   refine ds fun K2 jQ=>?_
   go_wp2_with fail
   refine (l04Hit_any _ l' ⟨next,cs,tt,left,cl,cg⟩ o i yb (U qX) (by omega) (U HIO) oo hl1 (by omega) Z.2).mono ?_
   rintro e w2 ⟨v2,rfl,ho2,xU⟩
   simp only [Od.vs,Ev.vs,trE,zCm]
   simp only at ho2
   have hq0':0 ≤ min left o.left:=by omega
   generalize min left o.left = q at ho2 HMI2 hme2 hq0' ⊢
   have vL:=Y ho2
   have xC:=Y xU
   have hTa:=ze (U HT0) xU (by omega)
   have oF:=ze (U HTE) xU (by omega)
   have qE:=Y hTa
   have HTB:=Y oF
   have HT1':=Y (ze (U qY) xU (by omega))
   have HER3:=Y (zG (U HER2) xU)
   have HBW2:=Y (dq (U xJ) xU)
   have xY:=xU.size
   obtain ⟨ya0,za0,qa0⟩:=zc hTa (j:=0) (by omega)
   obtain ⟨ya1,za1,qa1⟩:=zc hTa (j:=1) (by omega)
   obtain ⟨ya2,za2,qa2⟩:=zc hTa (j:=2) (by omega)
   obtain ⟨ya3,za3,qa3⟩:=zc hTa (j:=3) (by omega)
   obtain ⟨ya4,za4,qa4⟩:=zc hTa (j:=4) (by omega)
   obtain ⟨ya5,za5,qa5⟩:=zc hTa (j:=5) (by omega)
   obtain ⟨yb0,zb0,qb0⟩:=zc oF (j:=0) (by omega)
   obtain ⟨yb1,zb1,qb1⟩:=zc oF (j:=1) (by omega)
   obtain ⟨yb2,zb2,qb2⟩:=zc oF (j:=2) (by omega)
   obtain ⟨yb3,zb3,qb3⟩:=zc oF (j:=3) (by omega)
   obtain ⟨yb4,zb4,qb4⟩:=zc oF (j:=4) (by omega)
   obtain ⟨yb5,zb5,qb5⟩:=zc oF (j:=5) (by omega)
   obtain ⟨yb6,zb6,qb6⟩:=zc oF (j:=6) (by omega)
   obtain ⟨yb7,zb7,qb7⟩:=zc oF (j:=7) (by omega)
   obtain ⟨yb8,zb8,qb8⟩:=zc oF (j:=8) (by omega)
   obtain ⟨yb9,zb9,qb9⟩:=zc oF (j:=9) (by omega)
   obtain ⟨yb10,zb10,qb10⟩:=zc oF (j:=10) (by omega)
   obtain ⟨yb11,zb11,qb11⟩:=zc oF (j:=11) (by omega)
   obtain ⟨yb12,zb12,qb12⟩:=zc oF (j:=12) (by omega)
   obtain ⟨yb13,zb13,qb13⟩:=zc oF (j:=13) (by omega)
   have hES:xj ≠ w.heap.size:=by omega
   have hSE:w.heap.size ≠ xj:=by omega
   clear c0 c1 c2 c3 c4 c5 ho2 xU hTa oF HT0 HTE qY HER2 xJ qX kN
   go_wp2_with fail
   refine U jQ _ _ ?_
   clear jQ za0 qa0 za1 qa1 za2 qa2 za3 qa3 za4 qa4 za5 qa5 zb0 qb0 zb1 qb1 zb2 qb2 zb3 qb3 zb4 qb4 zb5 qb5 zb6 qb6 zb7 qb7 zb8 qb8 zb9 qb9 zb10 qb10 zb11 qb11 zb12 qb12 zb13 qb13
   have eW:((((((((((((((((((((w2.setCell (J w.heap.size 0) (H next)).setCell (J w.heap.size 1) (H cs)).setCell (J w.heap.size 2) (H tt)).setCell (J w.heap.size 3) (H (left - q))).setCell (J w.heap.size 4) (H cl)).setCell (J w.heap.size 5) (yj cg)).setCell (J xj 0) (H 3)).setCell (J xj 1) (H 0)).setCell (J xj 2) (H 0)).setCell (J xj 3) (H 0)).setCell (J xj 4) (H 0)).setCell (J xj 5) (H 0)).setCell (J xj 6) (H 0)).setCell (J xj 7) (yi 0)).setCell (J xj 8) (yj ⟨#[]⟩)).setCell (J xj 9) (H next)).setCell (J xj 10) (H o.id)).setCell (J xj 11) (H q)).setCell (J xj 12) (H o.ticks)).setCell (J xj 13) (H 0)) = (w2.setCells w.heap.size 0 [H next,H cs,H tt,H (left - q),H cl,yj cg]).setCells xj 0 [H 3,H 0,H 0,H 0,H 0,H 0,H 0,yi 0,yj ⟨#[]⟩,H next,H o.id,H q,H o.ticks,H 0]:=rfl
   rw [eW]
   clear eW
   obtain ⟨V1,qb⟩:∃ V:World,V = w2.setCells w.heap.size 0 [H next,H cs,H tt,H (left - q),H cl,yj cg]:=⟨_,rfl⟩
   rw [← qb]
   have ju:Hid (V1.rangeAt w.heap.size 0 [H next,H cs,H tt,H (left - q),H cl,yj cg]):=by rw [qb]; exact yV w2 _ 0 _ (fun j R=>U qE j R)
   have kh:Hid (V1.there w.heap.size 0 6):=by rw [qb]; exact yZ (U qE) _ _ _
   have uI:Hid (V1.there (w.heap.size + 1) 0 6):=by rw [qb]; exact yZ (U HT1') _ _ _
   have vZ:Hid (V1.there xj 0 14):=by rw [qb]; exact yZ (U HTB) _ _ _
   have vh:Hid (ORow V1 yb.heap.size v2 (pO l' i o q)):=by rw [qb]; exact bU (by omega) _ _ _ (U vL)
   have oQ:Hid (ERow V1 (w.heap.size + 1 + 1) u7 ts):=by rw [qb]; exact cQ (fun e=>by have:=(U ji _ e.symm).1; omega) _ _ _ (U HER3)
   have xT:Hid (ym w V1):=by rw [qb]; exact zm _ qt _ _ _ (U HBW2)
   have xy:V1.heap.size = w2.heap.size:=by rw [qb,zZ]
   clear qb
   obtain ⟨V2,kp⟩:∃ V:World,V = V1.setCells xj 0 [H 3,H 0,H 0,H 0,H 0,H 0,H 0,yi 0,yj ⟨#[]⟩,H next,H o.id,H q,H o.ticks,H 0]:=⟨_,rfl⟩
   rw [← kp]
   have vM:Hid (V2.rangeAt xj 0 [H 3,H 0,H 0,H 0,H 0,H 0,H 0,yi 0,yj ⟨#[]⟩,H next,H o.id,H q,H o.ticks,H 0]):=by rw [kp]; exact yV V1 _ 0 _ (fun j R=>U vZ j R)
   have kX:Hid (V2.rangeAt w.heap.size 0 [H next,H cs,H tt,H (left - q),H cl,yj cg]):=by rw [kp]; exact cX (U ju) (by omega)
   have HG4:Hid (V2.there w.heap.size 0 6):=by rw [kp]; exact yZ (U kh) _ _ _
   have jB:Hid (V2.there (w.heap.size + 1) 0 6):=by rw [kp]; exact yZ (U uI) _ _ _
   have qD:Hid (ORow V2 yb.heap.size v2 (pO l' i o q)):=by rw [kp]; exact bU (by omega) _ _ _ (U vh)
   have oB:Hid (ERow V2 (w.heap.size + 1 + 1) u7 ts):=by rw [kp]; exact cQ (fun e=>by have:=(U ji _ e.symm).2; omega) _ _ _ (U oQ)
   have uk:Hid (ym w V2):=by rw [kp]; exact zm _ (by omega) _ _ _ (U xT)
   have hs4:yb.heap.size ≤ V2.heap.size:=by rw [kp,zZ,xy]; exact xY
   clear kp ju kh uI vZ vh oQ xT xy vL xC qE HTB HT1' HER3 HBW2
   obtain ⟨e0,e1,e2,e3,e4,e5,e6,e7,e8,e9,kY,e11,e12,e13⟩:=yD (U vM)
   have HE3:=Y ((U oB).alloc (Obj.cells #[H 3,H 0,H 0,H 0,H 0,H 0,H 0,yi 0,yj ⟨#[]⟩,H next,H o.id,H q,H o.ticks,H 0] 46))
   have hs5:V2.heap.size + 1 ≤ (V2.alloc (Obj.cells #[H 3,H 0,H 0,H 0,H 0,H 0,H 0,yi 0,yj ⟨#[]⟩,H next,H o.id,H q,H o.ticks,H 0] 46)).heap.size:=Nat.le_of_eq (zf _ _).symm
   have qc:=dm V2 (Obj.cells #[H 3,H 0,H 0,H 0,H 0,H 0,H 0,yi 0,yj ⟨#[]⟩,H next,H o.id,H q,H o.ticks,H 0] 46)
   have uU:Hid (∀ j u,[H 3,H 0,H 0,H 0,H 0,H 0,H 0,yi 0,yj ⟨#[]⟩,H next,H o.id,H q,H o.ticks,H 0][j]? = some u→(V2.alloc (Obj.cells #[H 3,H 0,H 0,H 0,H 0,H 0,H 0,yi 0,yj ⟨#[]⟩,H next,H o.id,H q,H o.ticks,H 0] 46)).cell? (((J V2.heap.size 0):Addr).add j) = some u):=fun j u hu=>aY V2 [H 3,H 0,H 0,H 0,H 0,H 0,H 0,yi 0,yj ⟨#[]⟩,H next,H o.id,H q,H o.ticks,H 0] 46 j u hu
   have kM:=Y (zk (U qD) qc)
   have HR3:=Y (zb (U kX) qc (by omega))
   have ki:=Y (ze (U HG4) qc (by omega))
   have HG7:=Y (ze (U jB) qc (by omega))
   have kf:=Y (dq (U uk) qc)
   have HEBv:Hid (∀ g,u7.ownBlock = some g→w.heap.size + 1 + 1 ≤ g):=fun g hg=>(U ji g hg).1
   clear qc qD kX HG4 jB uk ji
   go_wp2_with (at_builtin; go_must (refine wpList_append_own _ rfl _ _ 38 rfl (w.heap.size + 1 + 1) 46 i0 _ 14 120 Tryz.underlying38 uz uA uF uR rfl (by decide) u7 ts.length (ts.flatMap Ev.vs) rfl (U HE3) (J V2.heap.size 0) 1 1 [H 3,H 0,H 0,H 0,H 0,H 0,H 0,yi 0,yj ⟨#[]⟩,H next,H o.id,H q,H o.ticks,H 0] rfl rfl (U uU) (by simp [Value.oneCell']) (by unfold maxLen; omega) (by omega) (by omega) ?_); intro v5 w5 vn pJ _; have oS:=Y vn; have jB:=Y pJ; clear vn pJ)
   have HRO:=Y ((U kM).kept (U jB) (zA (U kM) (U HE3) (by decide)))
   have jt:Hid (∀ b,b < w.heap.size + 1 + 1→some b ≠ u7.ownBlock):=fun b F e=>by have:=U HEBv b e.symm; omega
   have oT:=Y (zp (U HR3) (U jB) (by omega) (U jt _ (by omega)))
   have HT5:=Y (zY (U ki) (U jB) (by omega) (U jt _ (by omega)))
   have qZ:=Y (zY (U HG7) (U jB) (by omega) (U jt _ (by omega)))
   have kg:=Y ((U kf).grown (U jB) (U kf).size (fun k hk=>by have:=U HEBv k hk; omega))
   have hs6:=(U jB).size
   have qQ:Hid (ERow w5 (w.heap.size + 1 + 1) v5 (ts ++ [trE next o.id q o.ticks])):=by
    show w5.ownsRow _ _ _ _ (ts ++ [trE next o.id q o.ticks]).length _
    rw [yN,List.flatMap_append]
    have:=U oS
    simpa [Ev.vs,trE,zCm] using this
   obtain ⟨x0,x1,x2,x3,x4,x5⟩:=yA (U oT)
   try simp only [Exit.inBlock,Exit.then]
   refine U xq _ _ ?_
   clear xq HE3 uU kM HR3 ki HG7 kf jB oS e0 e1 e2 e3 e4 e5 e6 e7 e8 e9 kY e11 e12 e13
   have oj:=(U HMI2).good
   have hln:=oj.len
   go_wp2_with fail
   refine (l04Next_any v2 (pO l' i o q) ⟨next,cs,tt,left - q,cl,cg⟩ w5 (zK (U HRO) (by omega)) oj.rise (by omega) (U HS)).mono ?_
   rintro e w6 ⟨k6,rfl,hnx6,ka⟩
   have HN:Hid (MaI ⟨ck,cs,ct,cl,cq,ci,cp,cg⟩ next w (.slice a l.length E) l tt hb (2 * (pO l' i o q).length + (if 0 < left - q then 1 else 0)) v2 v5 (H k6) w6) :=
    ⟨pO l' i o q,left - q,ts ++ [trE next o.id q o.ticks],k6,rfl,.inr (aV (zk (U HRO) ka) (by omega)),zG (U qQ) ka,hnx6,U HMI2,zb (U oT) ka (by omega),ze (U HT5) ka (by omega),ze (U qZ) ka (by omega),(U kg).trans (ka.mono (U kg).size),by have:=ka.size; omega,Nat.le_refl _⟩
   clear hnx6 ka
   go_wp2_with fail
   go_roundg (2 * (pO l' i o q).length + (if 0 < left - q then 1 else 0))
   case measure=>rw [if_pos h0] at hme; omega
   case rel=>exact U HN
end Go.Proofs.YtbakanofkghmiaaGreat
