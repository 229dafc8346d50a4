/-
  A taker trades as far as it goes, by the model: proved by walking the function.
-/
import Derived.Test.YtbakanofkghmiaaGreatWj37
set_option linter.unusedVariables false
set_option maxHeartbeats 6400000
set_option maxRecDepth 100000
namespace Go.Proofs.YtbakanofkghmiaaGreat
open Go.RowKit
theorem dV {B b:Nat} {v:Value} {l:List Ev} (F:some b ≠ v.ownBlock):∀ (vs:List Value) (o:Nat) (W:World),ERow W B v l→ERow (W.setCells b o vs) B v l
 | [],_,_,h=>h
 | u :: us,o,W,h=>by rw [World.setCells]; exact dV F us (o + 1) _ (zu h F o u)
def MaI (c:Cm) (next:Int) (w:World) (v:Value) (l:List Od) (tt:Int) (hb:List Od × Int × List Ev) (m:Nat) (lv ev kv:Value) (wr:World):Prop :=
 ∃ (l':List Od) (left:Int) (ts:List Ev) (k:Int),kv = H k∧((lv = v∧l' = l) ∨ ORow wr (w.heap.size + 1 + 1) lv l')∧ERow wr (w.heap.size + 1 + 1) ev ts∧NexS l' ⟨next,c.s,tt,left,c.l,c.g⟩ k∧MI c next hb l' left ts ∧
  wr.rangeAt w.heap.size 0 [H next,H c.s,H tt,H left,H c.l,yk c.g]∧wr.there w.heap.size 0 6∧wr.there (w.heap.size + 1) 0 6∧yn w wr∧w.heap.size + 1 + 1 ≤ wr.heap.size∧2 * l'.length + (if 0 < left then 1 else 0) ≤ m
theorem ma_end {c:Cm} {next tt:Int} {hb:List Od × Int × List Ev} {l':List Od} {left:Int} {ts:List Ev} (htt:tt = tkS c.p) (hs:c.s = 1 ∨ c.s = 2) (hp:prcB c = true) (hm:MI c next hb l' left ts) (h:left = 0 ∨ aU l' (othS c.s) = none ∨ ∃ o,aU l' (othS c.s) = some o∧bI c.s tt o = false):hb = (l',left,ts):=by
 subst htt
 rcases h with h | h | ⟨o,h,E⟩
 ·exact mi_done hm (by omega)
 ·exact mi_none hm h
 ·rw [cross_meet hp] at E; exact mi_stop hm h E
def MatEnd (w:World) (v:Value) (l:List Od) (w':World) (v' ve:Value) (hb:List Od × Int × List Ev):Prop :=
 ((v' = v∧hb.1 = l) ∨ ORow w' w.heap.size v' hb.1)∧ERow w' w.heap.size ve hb.2.2∧yn w w'
theorem eRow_base {W:World} {B B':Nat} {v:Value} {l:List Ev} (h:ERow W B v l) (hB:B' ≤ B):ERow W B' v l :=
 ⟨h.1,by
  rcases h.2 with h | ⟨g',c',xr,G,E,h3⟩
  ·exact .inl h
  ·exact .inr ⟨g',c',xr,G,yN hB E,h3⟩⟩
theorem dr (v:Value) (l:List Od) (c:Cm) (next:Int) (w:World) (hr:RdR Od.vs 6 w v l) (hg:GoodL l) (hs:c.s = 1 ∨ c.s = 2) (hp:prcB c = true) (qd:0 ≤ c.q) (qe:c.q ≤ 1000000) :
  Calls Tryz.prog 89 #[v,.agg #[H next,H c.s,H (tkS c.p),H c.q,H c.l,yk c.g]] w fun e w'=>∃ v' ve,e = .returned (.tuple #[v',.agg #[H next,H c.s,H (tkS c.p),H (matL c next 21 l c.q []).2.1,H c.l,yk c.g],ve])∧MatEnd w v l w' v' ve (matL c next 21 l c.q []):=by
 obtain ⟨i0,uH,uF,uJ,uQ⟩:=info_parts infoEv
 have HMI0:=Y (mi_start (c:=c) (id:=next) hg qd qe)
 have HR:=Y hr
 have kM:=Y hg
 have HS:=Y hs
 have HP:=Y hp
 generalize htt:tkS c.p = tt
 have oi:=Y htt.symm
 generalize matL c next 21 l c.q [] = hb at HMI0 ⊢
 obtain ⟨a,A,rfl,xE,hc⟩:=hr
 obtain ⟨ck,cs,ct,cl,cq,ci,cp,cg⟩:=c
 simp only at hs qd qe htt oi HS ⊢
 clear hc hg hp xE htt
 have xA:=zh w (Obj.cells #[H next,H cs,H tt,H cq,H cl,yk cg] 49)
 have ua:((w.alloc (Obj.cells #[H next,H cs,H tt,H cq,H cl,yk cg] 49)).alloc (Obj.cells #[H 0,H 0,H 0,H 0,H 0,yk ⟨#[]⟩] 49)).heap.size = w.heap.size + 1 + 1:=by rw [zh,xA]
 have jt:(((w.alloc (Obj.cells #[H next,H cs,H tt,H cq,H cl,yk cg] 49)).alloc (Obj.cells #[H 0,H 0,H 0,H 0,H 0,yk ⟨#[]⟩] 49)).alloc (Obj.cells #[] 46)).heap.size = w.heap.size + 1 + 1 + 1:=by rw [zh,ua]
 have r1:=zi w [H next,H cs,H tt,H cq,H cl,yk cg] 49
 have t1:=zv w [H next,H cs,H tt,H cq,H cl,yk cg] 49
 have t2:=zv (w.alloc (Obj.cells #[H next,H cs,H tt,H cq,H cl,yk cg] 49)) [H 0,H 0,H 0,H 0,H 0,yk ⟨#[]⟩] 49
 rw [xA] at t2
 have e3:=World.ownsRow_made (base:=w.heap.size + 1 + 1) (e:=46) (size:=14) ((w.alloc (Obj.cells #[H next,H cs,H tt,H cq,H cl,yk cg] 49)).alloc (Obj.cells #[H 0,H 0,H 0,H 0,H 0,yk ⟨#[]⟩] 49)) #[] 0 (by omega) (by decide) rfl
 rw [ua] at e3
 have b1:=eD w (Obj.cells #[H next,H cs,H tt,H cq,H cl,yk cg] 49)
 have b2:Below (w.heap.size + 1) (w.alloc (Obj.cells #[H next,H cs,H tt,H cq,H cl,yk cg] 49)) ((w.alloc (Obj.cells #[H next,H cs,H tt,H cq,H cl,yk cg] 49)).alloc (Obj.cells #[H 0,H 0,H 0,H 0,H 0,yk ⟨#[]⟩] 49)):=(Below.refl _ _).alloc (by omega) _
 have b3:Below (w.heap.size + 1 + 1) ((w.alloc (Obj.cells #[H next,H cs,H tt,H cq,H cl,yk cg] 49)).alloc (Obj.cells #[H 0,H 0,H 0,H 0,H 0,yk ⟨#[]⟩] 49)) (((w.alloc (Obj.cells #[H next,H cs,H tt,H cq,H cl,yk cg] 49)).alloc (Obj.cells #[H 0,H 0,H 0,H 0,H 0,yk ⟨#[]⟩] 49)).alloc (Obj.cells #[] 46)):=(Below.refl _ _).alloc (by omega) _
 have b23:=b2.trans (b3.mono (by omega))
 have HX:Hid (_∧_∧_∧_):=⟨zb r1 b23 (by omega),zg t1 b23 (by omega),zg t2 b3 (by omega),e3⟩
 have xV:=Y (b1.trans (b23.mono (by omega)))
 have kC:=Y jt
 clear xA ua jt r1 t1 t2 b1 b2 b3 b23 e3
 go_enter Tryz.func89,Tryz.ntmps89
 refine eH fun hj xu=>?_
 go_wp2_with fail
 refine U xu _ _ ?_
 clear xu
 refine eH fun hj xu=>?_
 go_wp2_with fail
 refine U xu _ _ ?_
 clear xu
 generalize (((w.alloc (Obj.cells #[H next,H cs,H tt,H cq,H cl,yk cg] 49)).alloc (Obj.cells #[H 0,H 0,H 0,H 0,H 0,yk ⟨#[]⟩] 49)).alloc (Obj.cells #[] 46)) = hR at HX xV kC ⊢
 have HX:Hid (hR.rangeAt w.heap.size 0 [H next,H cs,H tt,H cq,H cl,yk cg]∧hR.there w.heap.size 0 6∧hR.there (w.heap.size + 1) 0 6∧hR.ownsRow (w.heap.size + 1 + 1) 46 14 (.slice (some (J (w.heap.size + 1 + 1) 0)) 0 0) 0 []):=U HX
 obtain ⟨c0,c1,c2,c3,c4,c5⟩:=yC (U HX).1
 go_wp2_with fail
 refine (l04Next_any _ l ⟨next,cs,tt,cq,cl,cg⟩ hR (zn (U HR) (U xV) qt) (U kM).rise (by have:=(U kM).len; omega) (U HS)).mono ?_
 rintro e w2 ⟨k,rfl,vX,xY⟩
 have uK:Hid (MaI ⟨ck,cs,ct,cl,cq,ci,cp,cg⟩ next w (.slice a l.length A) l tt hb (2 * l.length + 1) (.slice a l.length A) (.slice (some (J (w.heap.size + 1 + 1) 0)) 0 0) (H k) w2):=by
  have jt:=U kC
  refine ⟨l,cq,[],k,rfl,.inl ⟨rfl,rfl⟩,?_,vX,U HMI0,zb (U HX).1 xY (by omega),zg (U HX).2.1 xY (by omega),zg (U HX).2.2.1 xY (by omega),(U xV).trans (xY.mono (U xV).size),by have:=xY.size; omega,by split <;> omega⟩
  exact zI (l:=[]) (U HX).2.2.2 xY
 clear vX xY c0 c1 c2 c3 c4 c5 HX xV kC HMI0
 go_wp2_with fail
 go_loopg [0,7,8] (2 * l.length + 1) (fun m lv ev kv wr=>MaI ⟨ck,cs,ct,cl,cq,ci,cp,cg⟩ next w (.slice a l.length A) l tt hb m lv ev kv wr)
 case atStart=>exact U uK
 case round =>
  obtain ⟨l',left,ts,kx,rfl,hlv,jV,vX,hmi,hrt,ht0,ht1,hbw,ja,hme⟩:=hrel
  have jM:=Y jV
  have HMI:=Y hmi
  have oh:=Y hrt
  have HT0:=Y ht0
  have jm:=Y ht1
  have xM:=Y hbw
  have jR:=Y hlv
  have jl:Hid (RdR Od.vs 6 wr u0 l'):=by
   rcases hlv with ⟨rfl,rfl⟩ | h
   ·exact zn (U HR) hbw qt
   ·exact zN h (by have:=hmi.good.len; omega)
  have xE:=hmi.good.len
  have pS:=hmi.l0
  have hl1:=hmi.l1
  have hfew:=hmi.few
  clear jV hrt ht0 ht1 hbw uK hlv
  rcases vX with ⟨rfl,vW⟩ | ⟨i,o,rfl,hi,oo,hfo,hcr,pu⟩
  ·have HF:=Y (ma_end (U oi) (U HS) (U HP) hmi vW)
   clear vW hmi
   go_wp2_with fail
   obtain ⟨V0,pn⟩:∃ V:World,V = { wr with drawn:=wr.drawn + 1 }:=⟨_,rfl⟩
   have jR:Hid ((u0 = .slice a l.length A∧l' = l) ∨ ORow V0 (w.heap.size + 1 + 1) u0 l'):=by rw [pn]; exact U jR
   have jM:Hid (ERow V0 (w.heap.size + 1 + 1) u7 ts):=by rw [pn]; exact U jM
   have oh:Hid (V0.rangeAt w.heap.size 0 [H next,H cs,H tt,H left,H cl,yk cg]):=by rw [pn]; exact U oh
   have jm:Hid (V0.there (w.heap.size + 1) 0 6):=by rw [pn]; exact U jm
   have xM:Hid (yn w V0):=by rw [pn]; exact (U xM).trans ⟨rfl,rfl,rfl,Nat.le_refl _,fun _ _=>rfl⟩
   obtain ⟨V1,qn⟩:∃ V:World,V = V0.setCells (w.heap.size + 1) 0 [H next,H cs,H tt,H left,H cl,yk cg]:=⟨_,rfl⟩
   have jG:Hid (V1.rangeAt (w.heap.size + 1) 0 [H next,H cs,H tt,H left,H cl,yk cg]):=by rw [qn]; exact yX V0 _ 0 _ (fun j K=>U jm j K)
   have um:Hid (MatEnd w (.slice a l.length A) l V1 u0 u7 hb):=by
    rw [U HF]
    refine ⟨?_,?_,?_⟩
    ·rcases U jR with h | h
     ·exact .inl h
     ·exact .inr (by rw [qn]; exact cA (dq (by omega) _ _ _ h) (by omega))
    ·rw [qn]
     refine eRow_base (dV (fun e=>?_) _ _ _ (U jM)) (show w.heap.size ≤ w.heap.size + 1 + 1 by omega)
     have:=((U jM).lt _ e.symm).1
     omega
    ·rw [qn]; exact zo _ (by omega) _ _ _ (U xM)
   have HFL:Hid (hb.2.1 = left):=by show _ = _; rw [U HF]
   have HV0:=Y pn
   have HV1:=Y qn
   clear pn qn jR jM xM
   refine zj (R8A (fun f=>{ tmps:=#[u0,.agg #[H next,H cs,H tt,H cq,H cl,yk cg],M,I w.heap.size 0,f 3,I (w.heap.size + 1) 0,f 5,u7,H (-1),u9,.slice (some (J (w.heap.size + 1 + 1) 0)) 0 0,.slice a l.length A,.agg #[H next,H cs,H tt,H cq,H cl,yk cg],H k,H (-1),.bool false,u16,u17,u18,u19,u20,u21,u22,u23,u24,u25,u26,u27,u28,u29,u30,u31,f 0,f 1,f 2],defers:=[] }) u0 (.agg #[H next,H cs,H tt,H left,H cl,yk cg]) u7 V0 V1 V1) (by kernel_rfl) ?_ ?_ ?_
   ·exact ⟨fun j=>if j = 3 then .slice none 0 0 else if j = 5 then .slice none 0 0 else M,rfl,⟨by simp,by simp,by simp,by simp,by simp,fun _=>(U HV0).symm,by simp,by simp⟩⟩
   ·rintro x xm V' ⟨f,rfl,X⟩ hx xP
    have xp:=zR xP hx (by kernel_rfl)
    have e3:=X.f3 (xp 3 (by simp))
    have e5:=X.f5 (xp 5 (by simp))
    have eW:=X.s2 (xp 4 (by simp)) (xp 5 (by simp))
    subst eW
    simp only [e3,e5]
    clear X xp e3 e5 xP hx
    obtain ⟨d0,d1,d2,d3,d4,d5⟩:=yC (U jG)
    go_wp2_with fail
    try simp (config:={ zetaDelta:=true }) only [Exit.noGoto_ret]
    try simp only [Exit.inBlock,Exit.then]
    refine bodyPost_ret (by simp [results,Tryz.results89,go_sem,d0,d1,d2,d3,d4,d5]; try rfl) rfl ?_
    exact ⟨u0,u7,by rw [U HFL],U um⟩
   ·rintro x xm V' i' o' ⟨f,rfl,X⟩ xo hx Z xy Q
    have n5:i' < 5→x[5]? = some false:=fun xJ=>by
     rcases bU hx (show 5 < 6 by omega) with h | h
     ·exact h
     ·have:=xo 5 _ rfl h ⟨i',.phase⟩ (by rcases (by omega:i' = 0 ∨ i' = 1 ∨ i' = 2 ∨ i' = 3 ∨ i' = 4) with rfl | rfl | rfl | rfl | rfl <;> simp) rfl
      rw [xy] at this; cases this
    have n4:i' = 0 ∨ i' = 1 ∨ i' = 3→x[4]? = some false:=fun xJ=>by
     rcases bU hx (show 4 < 6 by omega) with h | h
     ·exact h
     ·have:=xo 4 _ rfl h ⟨i',.phase⟩ (by rcases xJ with rfl | rfl | rfl <;> simp) rfl
      rw [xy] at this; cases this
    have xz:=Y X
    clear xo
    match i',Z with
    | 0,Z =>
     obtain rfl:=ya Z
     clear Q X
     rw [if_pos (by rfl)];unfold Oper.wp;go_simp
     exact ⟨upd f 0 u0,by simp [upd],r8_val (U xz) 0 _ (by omega) (fun _=>rfl) (by omega) (by omega) (by omega)⟩
    | 1,Z =>
     obtain rfl:=ya Z
     have eV:=X.s0 (n4 (by omega))
     subst eV
     obtain ⟨c0,c1,c2,c3,c4,c5⟩:=yC (U oh)
     clear Q X
     rw [if_pos (by rfl)];unfold Oper.wp;go_simp
     exact ⟨upd f 1 (.agg #[H next,H cs,H tt,H left,H cl,yk cg]),by simp [upd],r8_val (U xz) 1 _ (by omega) (by omega) (fun _=>rfl) (by omega) (by omega)⟩
    | 2,Z =>
     obtain rfl:=ya Z
     clear Q X
     rw [if_pos (by rfl)];unfold Oper.wp;go_simp
     exact ⟨upd f 2 u7,by simp [upd],r8_val (U xz) 2 _ (by omega) (by omega) (by omega) (fun _=>rfl) (by omega)⟩
    | 3,Z =>
     obtain rfl:=ya Z
     have g0:=X.f0 (ye Q 0 rfl)
     clear Q X
     rw [if_pos (by rfl)];unfold Oper.wp;go_simp
     exact ⟨upd f 3 u0,by simp [upd,g0],r8_val (U xz) 3 _ (by omega) (by omega) (by omega) (by omega) (fun _=>rfl)⟩
    | 4,Z =>
     obtain rfl:=ya Z
     have g1:=X.f1 (ye Q 1 rfl)
     have eV:=X.s0 xy
     subst eV
     have xF:=U jm
     obtain ⟨y0,z0,q0⟩:=ze xF (j:=0) (by omega)
     obtain ⟨y1,z1,q1⟩:=ze xF (j:=1) (by omega)
     obtain ⟨y2,z2,q2⟩:=ze xF (j:=2) (by omega)
     obtain ⟨y3,z3,q3⟩:=ze xF (j:=3) (by omega)
     obtain ⟨y4,z4,q4⟩:=ze xF (j:=4) (by omega)
     obtain ⟨y5,z5,q5⟩:=ze xF (j:=5) (by omega)
     have n5':=n5 (by omega)
     clear Q X xF
     rw [if_pos (by rfl)];unfold Oper.wp;go_simp
     have HR4:=r8_4 (U xz) xy n5'
     conv at HR4=>arg 9; rw [U HV1]
     exact ⟨f,by simp [g1],HR4⟩
    | 5,Z =>
     obtain rfl:=ya Z
     have g2:=X.f2 (ye Q 2 rfl)
     have k4:x[4]? = some true:=Q ⟨4,.chain⟩ (by simp) rfl
     have eV:=X.s1 k4 xy
     subst eV
     have HR5:=r8_5 (U xz) k4 xy
     clear Q X
     rw [if_pos (by rfl)];unfold Oper.wp;go_simp
     exact ⟨upd f 5 u7,by simp [upd,g2],HR5⟩
    | i' + 6,Z=>simp at Z
  ·have h0:0 < left:=by simp only at pu; omega
   obtain ⟨k2,_,hk2,hmi2,hme2⟩:=mi_step hmi h0 hfo (by rw [← cross_meet (U HP),← U oi]; exact hcr)
   obtain rfl:i = k2:=rise_id hmi.good.rise oo hk2 rfl
   have Z:=hmi.good.left o (yO oo)
   have HMI2:=Y hmi2
   have HIO:=Y oo
   clear hmi2 hmi hfo hcr pu hk2 oo
   have hii:(0:Int) ≤ i:=by omega
   refine eH fun hj xu=>?_
   go_wp2_with fail
   refine U xu _ _ ?_
   clear xu
   refine eH fun hj xu=>?_
   refine wp_block ?_
   refine eH fun K2 kf=>?_
   have hsf:=sfl
   go_wp2_with fail
   refine U kf _ _ ?_
   clear kf
   have vr:=eD wr (Obj.cells #[H 0,H 0,H 0,H 0,H 0,H 0,H 0,yj 0,yk ⟨#[]⟩,H 0,H 0,H 0,H 0,H 0] 46)
   have hsY:=zh wr (Obj.cells #[H 0,H 0,H 0,H 0,H 0,H 0,H 0,yj 0,yk ⟨#[]⟩,H 0,H 0,H 0,H 0,H 0] 46)
   have oh:=Y (zb (U oh) vr (by omega))
   have HT0:=Y (zg (U HT0) vr (by omega))
   have jm:=Y (zg (U jm) vr (by omega))
   have HER2:=Y (zI (U jM) vr)
   have jw:Hid (∀ g,u7.ownBlock = some g→w.heap.size + 1 + 1 ≤ g∧g < wr.heap.size):=fun g hg=>(U jM).lt g hg
   have jl:=Y (zn (U jl) vr qt)
   have HTE:=Y (zv wr [H 0,H 0,H 0,H 0,H 0,H 0,H 0,yj 0,yk ⟨#[]⟩,H 0,H 0,H 0,H 0,H 0] 46)
   have xM:=Y (D (U xM) vr)
   clear vr jM jR
   have HTE:Hid (World.there (wr.alloc (Obj.cells #[H 0,H 0,H 0,H 0,H 0,H 0,H 0,yj 0,yk ⟨#[]⟩,H 0,H 0,H 0,H 0,H 0] 46)) wr.heap.size 0 14):=U HTE
   generalize wr.alloc (Obj.cells #[H 0,H 0,H 0,H 0,H 0,H 0,H 0,yj 0,yk ⟨#[]⟩,H 0,H 0,H 0,H 0,H 0] 46) = yb at oh HT0 jm HER2 jl HTE xM hsY ⊢
   generalize wr.heap.size = h2 at jw HTE hsY ja ⊢
   obtain ⟨c0,c1,c2,c3,c4,c5⟩:=yC (U oh)
   refine eH fun K2 kf=>?_
   go_wp2_with fail
   refine (l04Hit_any _ l' ⟨next,cs,tt,left,cl,cg⟩ o i yb (U jl) (by omega) (U HIO) pS hl1 (by omega) Z.2).mono ?_
   rintro e w2 ⟨v2,rfl,ho2,xY⟩
   simp only [Od.vs,Ev.vs,trE,zCm]
   simp only at ho2
   have hq0':0 ≤ min left o.left:=by omega
   generalize min left o.left = q at ho2 HMI2 hme2 hq0' ⊢
   have vT:=Y ho2
   have xD:=Y xY
   have hTa:=zg (U HT0) xY (by omega)
   have pm:=zg (U HTE) xY (by omega)
   have uP:=Y hTa
   have qv:=Y pm
   have HT1':=Y (zg (U jm) xY (by omega))
   have HER3:=Y (zI (U HER2) xY)
   have HBW2:=Y (D (U xM) xY)
   have ua:=xY.size
   obtain ⟨ya0,za0,qa0⟩:=ze hTa (j:=0) (by omega)
   obtain ⟨ya1,za1,qa1⟩:=ze hTa (j:=1) (by omega)
   obtain ⟨ya2,za2,qa2⟩:=ze hTa (j:=2) (by omega)
   obtain ⟨ya3,za3,qa3⟩:=ze hTa (j:=3) (by omega)
   obtain ⟨ya4,za4,qa4⟩:=ze hTa (j:=4) (by omega)
   obtain ⟨ya5,za5,qa5⟩:=ze hTa (j:=5) (by omega)
   obtain ⟨yb0,zb0,qb0⟩:=ze pm (j:=0) (by omega)
   obtain ⟨yb1,zb1,qb1⟩:=ze pm (j:=1) (by omega)
   obtain ⟨yb2,zb2,qb2⟩:=ze pm (j:=2) (by omega)
   obtain ⟨yb3,zb3,qb3⟩:=ze pm (j:=3) (by omega)
   obtain ⟨yb4,zb4,qb4⟩:=ze pm (j:=4) (by omega)
   obtain ⟨yb5,zb5,qb5⟩:=ze pm (j:=5) (by omega)
   obtain ⟨yb6,zb6,qb6⟩:=ze pm (j:=6) (by omega)
   obtain ⟨yb7,zb7,qb7⟩:=ze pm (j:=7) (by omega)
   obtain ⟨yb8,zb8,qb8⟩:=ze pm (j:=8) (by omega)
   obtain ⟨yb9,zb9,qb9⟩:=ze pm (j:=9) (by omega)
   obtain ⟨yb10,zb10,qb10⟩:=ze pm (j:=10) (by omega)
   obtain ⟨yb11,zb11,qb11⟩:=ze pm (j:=11) (by omega)
   obtain ⟨yb12,zb12,qb12⟩:=ze pm (j:=12) (by omega)
   obtain ⟨yb13,zb13,qb13⟩:=ze pm (j:=13) (by omega)
   have hES:h2 ≠ w.heap.size:=by omega
   have hSE:w.heap.size ≠ h2:=by omega
   clear c0 c1 c2 c3 c4 c5 ho2 xY hTa pm HT0 HTE jm HER2 xM jl oh
   go_wp2_with fail
   refine U kf _ _ ?_
   clear kf za0 qa0 za1 qa1 za2 qa2 za3 qa3 za4 qa4 za5 qa5 zb0 qb0 zb1 qb1 zb2 qb2 zb3 qb3 zb4 qb4 zb5 qb5 zb6 qb6 zb7 qb7 zb8 qb8 zb9 qb9 zb10 qb10 zb11 qb11 zb12 qb12 zb13 qb13
   have eW:((((((((((((((((((((w2.setCell (J w.heap.size 0) (H next)).setCell (J w.heap.size 1) (H cs)).setCell (J w.heap.size 2) (H tt)).setCell (J w.heap.size 3) (H (left - q))).setCell (J w.heap.size 4) (H cl)).setCell (J w.heap.size 5) (yk cg)).setCell (J h2 0) (H 3)).setCell (J h2 1) (H 0)).setCell (J h2 2) (H 0)).setCell (J h2 3) (H 0)).setCell (J h2 4) (H 0)).setCell (J h2 5) (H 0)).setCell (J h2 6) (H 0)).setCell (J h2 7) (yj 0)).setCell (J h2 8) (yk ⟨#[]⟩)).setCell (J h2 9) (H next)).setCell (J h2 10) (H o.id)).setCell (J h2 11) (H q)).setCell (J h2 12) (H o.ticks)).setCell (J h2 13) (H 0)) = (w2.setCells w.heap.size 0 [H next,H cs,H tt,H (left - q),H cl,yk cg]).setCells h2 0 [H 3,H 0,H 0,H 0,H 0,H 0,H 0,yj 0,yk ⟨#[]⟩,H next,H o.id,H q,H o.ticks,H 0]:=rfl
   rw [eW]
   clear eW
   obtain ⟨V1,qn⟩:∃ V:World,V = w2.setCells w.heap.size 0 [H next,H cs,H tt,H (left - q),H cl,yk cg]:=⟨_,rfl⟩
   rw [← qn]
   have jG:Hid (V1.rangeAt w.heap.size 0 [H next,H cs,H tt,H (left - q),H cl,yk cg]):=by rw [qn]; exact yX w2 _ 0 _ (fun j K=>U uP j K)
   have kA:Hid (V1.there w.heap.size 0 6):=by rw [qn]; exact xb (U uP) _ _ _
   have uM:Hid (V1.there (w.heap.size + 1) 0 6):=by rw [qn]; exact xb (U HT1') _ _ _
   have qh:Hid (V1.there h2 0 14):=by rw [qn]; exact xb (U qv) _ _ _
   have vp:Hid (ORow V1 yb.heap.size v2 (aN l' i o q)):=by rw [qn]; exact dq (by omega) _ _ _ (U vT)
   have pC:Hid (ERow V1 (w.heap.size + 1 + 1) u7 ts):=by rw [qn]; exact dV (fun e=>by have:=(U jw _ e.symm).1; omega) _ _ _ (U HER3)
   have xU:Hid (yn w V1):=by rw [qn]; exact zo _ qt _ _ _ (U HBW2)
   have xA:V1.heap.size = w2.heap.size:=by rw [qn,cx]
   clear qn
   obtain ⟨V2,kF⟩:∃ V:World,V = V1.setCells h2 0 [H 3,H 0,H 0,H 0,H 0,H 0,H 0,yj 0,yk ⟨#[]⟩,H next,H o.id,H q,H o.ticks,H 0]:=⟨_,rfl⟩
   rw [← kF]
   have vJ:Hid (V2.rangeAt h2 0 [H 3,H 0,H 0,H 0,H 0,H 0,H 0,yj 0,yk ⟨#[]⟩,H next,H o.id,H q,H o.ticks,H 0]):=by rw [kF]; exact yX V1 _ 0 _ (fun j K=>U qh j K)
   have oB:Hid (V2.rangeAt w.heap.size 0 [H next,H cs,H tt,H (left - q),H cl,yk cg]):=by rw [kF]; exact ed (U jG) (by omega)
   have HG4:Hid (V2.there w.heap.size 0 6):=by rw [kF]; exact xb (U kA) _ _ _
   have jE:Hid (V2.there (w.heap.size + 1) 0 6):=by rw [kF]; exact xb (U uM) _ _ _
   have qQ:Hid (ORow V2 yb.heap.size v2 (aN l' i o q)):=by rw [kF]; exact dq (by omega) _ _ _ (U vp)
   have aw:Hid (ERow V2 (w.heap.size + 1 + 1) u7 ts):=by rw [kF]; exact dV (fun e=>by have:=(U jw _ e.symm).2; omega) _ _ _ (U pC)
   have uo:Hid (yn w V2):=by rw [kF]; exact zo _ (by omega) _ _ _ (U xU)
   have hs4:yb.heap.size ≤ V2.heap.size:=by rw [kF,cx,xA]; exact ua
   clear kF jG kA uM qh vp pC xU xA vT xD uP qv HT1' HER3 HBW2
   obtain ⟨e0,e1,e2,e3,e4,e5,e6,e7,e8,e9,oE,e11,e12,e13⟩:=yF (U vJ)
   have HE3:=Y ((U aw).alloc (Obj.cells #[H 3,H 0,H 0,H 0,H 0,H 0,H 0,yj 0,yk ⟨#[]⟩,H next,H o.id,H q,H o.ticks,H 0] 46))
   have hs5:V2.heap.size + 1 ≤ (V2.alloc (Obj.cells #[H 3,H 0,H 0,H 0,H 0,H 0,H 0,yj 0,yk ⟨#[]⟩,H next,H o.id,H q,H o.ticks,H 0] 46)).heap.size:=Nat.le_of_eq (zh _ _).symm
   have qp:=eD V2 (Obj.cells #[H 3,H 0,H 0,H 0,H 0,H 0,H 0,yj 0,yk ⟨#[]⟩,H next,H o.id,H q,H o.ticks,H 0] 46)
   have uZ:Hid (∀ j u,[H 3,H 0,H 0,H 0,H 0,H 0,H 0,yj 0,yk ⟨#[]⟩,H next,H o.id,H q,H o.ticks,H 0][j]? = some u→(V2.alloc (Obj.cells #[H 3,H 0,H 0,H 0,H 0,H 0,H 0,yj 0,yk ⟨#[]⟩,H next,H o.id,H q,H o.ticks,H 0] 46)).cell? (((J V2.heap.size 0):Addr).add j) = some u):=fun j u hu=>cE V2 [H 3,H 0,H 0,H 0,H 0,H 0,H 0,yj 0,yk ⟨#[]⟩,H next,H o.id,H q,H o.ticks,H 0] 46 j u hu
   have og:=Y (zm (U qQ) qp)
   have HR3:=Y (zb (U oB) qp (by omega))
   have kr:=Y (zg (U HG4) qp (by omega))
   have pD:=Y (zg (U jE) qp (by omega))
   have km:=Y (D (U uo) qp)
   have HEBv:Hid (∀ g,u7.ownBlock = some g→w.heap.size + 1 + 1 ≤ g):=fun g hg=>(U jw g hg).1
   clear qp qQ oB HG4 jE uo jw
   go_wp2_with (at_builtin; go_must (refine wpList_append_own _ rfl _ _ 38 rfl (w.heap.size + 1 + 1) 46 i0 _ 14 120 Tryz.underlying38 uH uF uJ uQ rfl (by decide) u7 ts.length (ts.flatMap Ev.vs) rfl (U HE3) (J V2.heap.size 0) 1 1 [H 3,H 0,H 0,H 0,H 0,H 0,H 0,yj 0,yk ⟨#[]⟩,H next,H o.id,H q,H o.ticks,H 0] rfl rfl (U uZ) (by simp [Value.oneCell']) (by unfold maxLen; omega) (by omega) (by omega) ?_); intro v5 w5 vy aE _; have kP:=Y vy; have jE:=Y aE; clear vy aE)
   have HRO:=Y ((U og).kept (U jE) (zD (U og) (U HE3) (by decide)))
   have jF:Hid (∀ b,b < w.heap.size + 1 + 1→some b ≠ u7.ownBlock):=fun b F e=>by have:=U HEBv b e.symm; omega
   have pF:=Y (zt (U HR3) (U jE) (by omega) (U jF _ (by omega)))
   have HT5:=Y (bK (U kr) (U jE) (by omega) (U jF _ (by omega)))
   have jn:=Y (bK (U pD) (U jE) (by omega) (U jF _ (by omega)))
   have kb:=Y ((U km).grown (U jE) (U km).size (fun k hk=>by have:=U HEBv k hk; omega))
   have hs6:=(U jE).size
   have ke:Hid (ERow w5 (w.heap.size + 1 + 1) v5 (ts ++ [trE next o.id q o.ticks])):=by
    show w5.ownsRow _ _ _ _ (ts ++ [trE next o.id q o.ticks]).length _
    rw [yP,List.flatMap_append]
    have:=U kP
    simpa [Ev.vs,trE,zCm] using this
   obtain ⟨x0,x1,x2,x3,x4,x5⟩:=yC (U pF)
   try simp only [Exit.inBlock,Exit.then]
   refine U xu _ _ ?_
   clear xu HE3 uZ og HR3 kr pD km jE kP e0 e1 e2 e3 e4 e5 e6 e7 e8 e9 oE e11 e12 e13
   have oT:=(U HMI2).good
   have hln:=oT.len
   go_wp2_with fail
   refine (l04Next_any v2 (aN l' i o q) ⟨next,cs,tt,left - q,cl,cg⟩ w5 (zN (U HRO) (by omega)) oT.rise (by omega) (U HS)).mono ?_
   rintro e w6 ⟨k6,rfl,hnx6,jA⟩
   have HN:Hid (MaI ⟨ck,cs,ct,cl,cq,ci,cp,cg⟩ next w (.slice a l.length A) l tt hb (2 * (aN l' i o q).length + (if 0 < left - q then 1 else 0)) v2 v5 (H k6) w6) :=
    ⟨aN l' i o q,left - q,ts ++ [trE next o.id q o.ticks],k6,rfl,.inr (cA (zm (U HRO) jA) (by omega)),zI (U ke) jA,hnx6,U HMI2,zb (U pF) jA (by omega),zg (U HT5) jA (by omega),zg (U jn) jA (by omega),(U kb).trans (jA.mono (U kb).size),by have:=jA.size; omega,Nat.le_refl _⟩
   clear hnx6 jA
   go_wp2_with fail
   go_roundg (2 * (aN l' i o q).length + (if 0 < left - q then 1 else 0))
   case measure=>rw [if_pos h0] at hme; omega
   case rel=>exact U HN
end Go.Proofs.YtbakanofkghmiaaGreat
