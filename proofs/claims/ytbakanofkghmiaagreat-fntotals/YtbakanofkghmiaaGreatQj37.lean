/-
  A taker trades as far as it goes, by the model: proved by walking the function.
-/
import Derived.Test.YtbakanofkghmiaaGreatQj36
set_option linter.unusedVariables false
set_option maxHeartbeats 6400000
set_option maxRecDepth 100000
namespace Go.Proofs.YtbakanofkghmiaaGreat
open Go.RowKit
theorem dR {B b:Nat} {v:Value} {l:List Ev} (X:some b ≠ v.ownBlock):∀ (vs:List Value) (o:Nat) (W:World),ERow W B v l→ERow (W.setCells b o vs) B v l
 | [],_,_,h=>h
 | u :: us,o,W,h=>by rw [World.setCells]; exact dR X us (o + 1) _ (zv h X o u)
def MaI (c:Cm) (next:Int) (w:World) (v:Value) (l:List Od) (tt:Int) (ty:List Od × Int × List Ev) (m:Nat) (lv ev kv:Value) (wr:World):Prop :=
 ∃ (l':List Od) (left:Int) (ts:List Ev) (k:Int),kv = H k∧((lv = v∧l' = l) ∨ ORow wr (w.heap.size + 1 + 1) lv l')∧ERow wr (w.heap.size + 1 + 1) ev ts∧NexS l' ⟨next,c.s,tt,left,c.l,c.g⟩ k∧MI c next ty l' left ts ∧
  wr.rangeAt w.heap.size 0 [H next,H c.s,H tt,H left,H c.l,yk c.g]∧wr.there w.heap.size 0 6∧wr.there (w.heap.size + 1) 0 6∧yn w wr∧w.heap.size + 1 + 1 ≤ wr.heap.size∧2 * l'.length + (if 0 < left then 1 else 0) ≤ m
theorem ma_end {c:Cm} {next tt:Int} {ty:List Od × Int × List Ev} {l':List Od} {left:Int} {ts:List Ev} (htt:tt = tkS c.p) (hs:c.s = 1 ∨ c.s = 2) (hp:prcB c = true) (hm:MI c next ty l' left ts) (h:left = 0 ∨ aV l' (othS c.s) = none ∨ ∃ o,aV l' (othS c.s) = some o∧bF c.s tt o = false):ty = (l',left,ts):=by
 subst htt
 rcases h with h | h | ⟨o,h,N⟩
 ·exact mi_done hm (by omega)
 ·exact mi_none hm h
 ·rw [cross_meet hp] at N; exact mi_stop hm h N
def MatEnd (w:World) (v:Value) (l:List Od) (w':World) (v' ve:Value) (ty:List Od × Int × List Ev):Prop :=
 ((v' = v∧ty.1 = l) ∨ ORow w' w.heap.size v' ty.1)∧ERow w' w.heap.size ve ty.2.2∧yn w w'
theorem eRow_base {W:World} {B B':Nat} {v:Value} {l:List Ev} (h:ERow W B v l) (hB:B' ≤ B):ERow W B' v l :=
 ⟨h.1,by
  rcases h.2 with h | ⟨g',c',xu,Q,N,h3⟩
  ·exact .inl h
  ·exact .inr ⟨g',c',xu,Q,yO hB N,h3⟩⟩
theorem dl (v:Value) (l:List Od) (c:Cm) (next:Int) (w:World) (hr:RdR Od.vs 6 w v l) (hg:GoodL l) (hs:c.s = 1 ∨ c.s = 2) (hp:prcB c = true) (jp:0 ≤ c.q) (jq:c.q ≤ 1000000) :
  Calls Tryz.prog 89 #[v,.agg #[H next,H c.s,H (tkS c.p),H c.q,H c.l,yk c.g]] w fun e w'=>∃ v' ve,e = .returned (.tuple #[v',.agg #[H next,H c.s,H (tkS c.p),H (matL c next 21 l c.q []).2.1,H c.l,yk c.g],ve])∧MatEnd w v l w' v' ve (matL c next 21 l c.q []):=by
 obtain ⟨i0,uG,uF,uI,uT⟩:=info_parts infoEv
 have HMI0:=Y (mi_start (c:=c) (id:=next) hg jp jq)
 have HR:=Y hr
 have oh:=Y hg
 have HS:=Y hs
 have HP:=Y hp
 generalize htt:tkS c.p = tt
 have om:=Y htt.symm
 generalize matL c next 21 l c.q [] = ty at HMI0 ⊢
 obtain ⟨a,A,rfl,xG,hc⟩:=hr
 obtain ⟨ck,cs,ct,cl,cq,ci,cp,cg⟩:=c
 simp only at hs jp jq htt om HS ⊢
 clear hc hg hp xG htt
 have xC:=zh w (Obj.cells #[H next,H cs,H tt,H cq,H cl,yk cg] 49)
 have ua:((w.alloc (Obj.cells #[H next,H cs,H tt,H cq,H cl,yk cg] 49)).alloc (Obj.cells #[H 0,H 0,H 0,H 0,H 0,yk ⟨#[]⟩] 49)).heap.size = w.heap.size + 1 + 1:=by rw [zh,xC]
 have jd:(((w.alloc (Obj.cells #[H next,H cs,H tt,H cq,H cl,yk cg] 49)).alloc (Obj.cells #[H 0,H 0,H 0,H 0,H 0,yk ⟨#[]⟩] 49)).alloc (Obj.cells #[] 46)).heap.size = w.heap.size + 1 + 1 + 1:=by rw [zh,ua]
 have r1:=zi w [H next,H cs,H tt,H cq,H cl,yk cg] 49
 have t1:=zw w [H next,H cs,H tt,H cq,H cl,yk cg] 49
 have t2:=zw (w.alloc (Obj.cells #[H next,H cs,H tt,H cq,H cl,yk cg] 49)) [H 0,H 0,H 0,H 0,H 0,yk ⟨#[]⟩] 49
 rw [xC] at t2
 have e3:=World.ownsRow_made (base:=w.heap.size + 1 + 1) (e:=46) (size:=14) ((w.alloc (Obj.cells #[H next,H cs,H tt,H cq,H cl,yk cg] 49)).alloc (Obj.cells #[H 0,H 0,H 0,H 0,H 0,yk ⟨#[]⟩] 49)) #[] 0 (by omega) (by decide) rfl
 rw [ua] at e3
 have b1:=eE w (Obj.cells #[H next,H cs,H tt,H cq,H cl,yk cg] 49)
 have b2:Below (w.heap.size + 1) (w.alloc (Obj.cells #[H next,H cs,H tt,H cq,H cl,yk cg] 49)) ((w.alloc (Obj.cells #[H next,H cs,H tt,H cq,H cl,yk cg] 49)).alloc (Obj.cells #[H 0,H 0,H 0,H 0,H 0,yk ⟨#[]⟩] 49)):=(Below.refl _ _).alloc (by omega) _
 have b3:Below (w.heap.size + 1 + 1) ((w.alloc (Obj.cells #[H next,H cs,H tt,H cq,H cl,yk cg] 49)).alloc (Obj.cells #[H 0,H 0,H 0,H 0,H 0,yk ⟨#[]⟩] 49)) (((w.alloc (Obj.cells #[H next,H cs,H tt,H cq,H cl,yk cg] 49)).alloc (Obj.cells #[H 0,H 0,H 0,H 0,H 0,yk ⟨#[]⟩] 49)).alloc (Obj.cells #[] 46)):=(Below.refl _ _).alloc (by omega) _
 have b23:=b2.trans (b3.mono (by omega))
 have HX:Hid (_∧_∧_∧_):=⟨zb r1 b23 (by omega),zg t1 b23 (by omega),zg t2 b3 (by omega),e3⟩
 have xQ:=Y (b1.trans (b23.mono (by omega)))
 have kE:=Y jd
 clear xC ua jd r1 t1 t2 b1 b2 b3 b23 e3
 go_enter Tryz.func89,Tryz.ntmps89
 refine eI fun hR xv=>?_
 go_wp2_with fail
 refine U xv _ _ ?_
 clear xv
 refine eI fun hR xv=>?_
 go_wp2_with fail
 refine U xv _ _ ?_
 clear xv
 generalize (((w.alloc (Obj.cells #[H next,H cs,H tt,H cq,H cl,yk cg] 49)).alloc (Obj.cells #[H 0,H 0,H 0,H 0,H 0,yk ⟨#[]⟩] 49)).alloc (Obj.cells #[] 46)) = hb at HX xQ kE ⊢
 have HX:Hid (hb.rangeAt w.heap.size 0 [H next,H cs,H tt,H cq,H cl,yk cg]∧hb.there w.heap.size 0 6∧hb.there (w.heap.size + 1) 0 6∧hb.ownsRow (w.heap.size + 1 + 1) 46 14 (.slice (some (J (w.heap.size + 1 + 1) 0)) 0 0) 0 []):=U HX
 obtain ⟨c0,c1,c2,c3,c4,c5⟩:=yD (U HX).1
 go_wp2_with fail
 refine (l04Next_any _ l ⟨next,cs,tt,cq,cl,cg⟩ hb (zn (U HR) (U xQ) tg) (U oh).rise (by have:=(U oh).len; omega) (U HS)).mono ?_
 rintro e w2 ⟨k,rfl,vY,xX⟩
 have uK:Hid (MaI ⟨ck,cs,ct,cl,cq,ci,cp,cg⟩ next w (.slice a l.length A) l tt ty (2 * l.length + 1) (.slice a l.length A) (.slice (some (J (w.heap.size + 1 + 1) 0)) 0 0) (H k) w2):=by
  have jd:=U kE
  refine ⟨l,cq,[],k,rfl,.inl ⟨rfl,rfl⟩,?_,vY,U HMI0,zb (U HX).1 xX (by omega),zg (U HX).2.1 xX (by omega),zg (U HX).2.2.1 xX (by omega),(U xQ).trans (xX.mono (U xQ).size),by have:=xX.size; omega,by split <;> omega⟩
  exact zJ (l:=[]) (U HX).2.2.2 xX
 clear vY xX c0 c1 c2 c3 c4 c5 HX xQ kE HMI0
 go_wp2_with fail
 go_loopg [0,7,8] (2 * l.length + 1) (fun m lv ev kv wr=>MaI ⟨ck,cs,ct,cl,cq,ci,cp,cg⟩ next w (.slice a l.length A) l tt ty m lv ev kv wr)
 case atStart=>exact U uK
 case round =>
  obtain ⟨l',left,ts,kx,rfl,hlv,jW,vY,hmi,hrt,ht0,ht1,ou,qW,hme⟩:=hrel
  have jM:=Y jW
  have HMI:=Y hmi
  have oj:=Y hrt
  have kF:=Y ht0
  have jj:=Y ht1
  have xK:=Y ou
  have jR:=Y hlv
  have ji:Hid (RdR Od.vs 6 wr u0 l'):=by
   rcases hlv with ⟨rfl,rfl⟩ | h
   ·exact zn (U HR) ou tg
   ·exact zN h (by have:=hmi.good.len; omega)
  have xG:=hmi.good.len
  have pL:=hmi.l0
  have hl1:=hmi.l1
  have hfew:=hmi.few
  clear jW hrt ht0 ht1 ou uK hlv
  rcases vY with ⟨rfl,vX⟩ | ⟨i,o,rfl,hi,ox,hfo,hcr,pj⟩
  ·have HF:=Y (ma_end (U om) (U HS) (U HP) hmi vX)
   clear vX hmi
   go_wp2_with fail
   obtain ⟨V0,pd⟩:∃ V:World,V = { wr with drawn:=wr.drawn + 1 }:=⟨_,rfl⟩
   have jR:Hid ((u0 = .slice a l.length A∧l' = l) ∨ ORow V0 (w.heap.size + 1 + 1) u0 l'):=by rw [pd]; exact U jR
   have jM:Hid (ERow V0 (w.heap.size + 1 + 1) u7 ts):=by rw [pd]; exact U jM
   have oj:Hid (V0.rangeAt w.heap.size 0 [H next,H cs,H tt,H left,H cl,yk cg]):=by rw [pd]; exact U oj
   have jj:Hid (V0.there (w.heap.size + 1) 0 6):=by rw [pd]; exact U jj
   have xK:Hid (yn w V0):=by rw [pd]; exact (U xK).trans ⟨rfl,rfl,rfl,Nat.le_refl _,fun _ _=>rfl⟩
   obtain ⟨V1,qj⟩:∃ V:World,V = V0.setCells (w.heap.size + 1) 0 [H next,H cs,H tt,H left,H cl,yk cg]:=⟨_,rfl⟩
   have jD:Hid (V1.rangeAt (w.heap.size + 1) 0 [H next,H cs,H tt,H left,H cl,yk cg]):=by rw [qj]; exact yY V0 _ 0 _ (fun j R=>U jj j R)
   have uo:Hid (MatEnd w (.slice a l.length A) l V1 u0 u7 ty):=by
    rw [U HF]
    refine ⟨?_,?_,?_⟩
    ·rcases U jR with h | h
     ·exact .inl h
     ·exact .inr (by rw [qj]; exact cj (dj (by omega) _ _ _ h) (by omega))
    ·rw [qj]
     refine eRow_base (dR (fun e=>?_) _ _ _ (U jM)) (show w.heap.size ≤ w.heap.size + 1 + 1 by omega)
     have:=((U jM).lt _ e.symm).1
     omega
    ·rw [qj]; exact zo _ (by omega) _ _ _ (U xK)
   have HFL:Hid (ty.2.1 = left):=by show _ = _; rw [U HF]
   have HV0:=Y pd
   have HV1:=Y qj
   clear pd qj jR jM xK
   refine zj (R8A (fun f=>{ tmps:=#[u0,.agg #[H next,H cs,H tt,H cq,H cl,yk cg],M,I w.heap.size 0,f 3,I (w.heap.size + 1) 0,f 5,u7,H (-1),u9,.slice (some (J (w.heap.size + 1 + 1) 0)) 0 0,.slice a l.length A,.agg #[H next,H cs,H tt,H cq,H cl,yk cg],H k,H (-1),.bool false,u16,u17,u18,u19,u20,u21,u22,u23,u24,u25,u26,u27,u28,u29,u30,u31,f 0,f 1,f 2],defers:=[] }) u0 (.agg #[H next,H cs,H tt,H left,H cl,yk cg]) u7 V0 V1 V1) (by kernel_rfl) ?_ ?_ ?_
   ·exact ⟨fun j=>if j = 3 then .slice none 0 0 else if j = 5 then .slice none 0 0 else M,rfl,⟨by simp,by simp,by simp,by simp,by simp,fun _=>(U HV0).symm,by simp,by simp⟩⟩
   ·rintro x xn V' ⟨f,rfl,K⟩ hx xN
    have xq:=zR xN hx (by kernel_rfl)
    have e3:=K.f3 (xq 3 (by simp))
    have e5:=K.f5 (xq 5 (by simp))
    have eW:=K.s2 (xq 4 (by simp)) (xq 5 (by simp))
    subst eW
    simp only [e3,e5]
    clear K xq e3 e5 xN hx
    obtain ⟨d0,d1,d2,d3,d4,d5⟩:=yD (U jD)
    go_wp2_with fail
    try simp (config:={ zetaDelta:=true }) only [Exit.noGoto_ret]
    try simp only [Exit.inBlock,Exit.then]
    refine bodyPost_ret (by simp [results,Tryz.results89,go_sem,d0,d1,d2,d3,d4,d5]; try rfl) rfl ?_
    exact ⟨u0,u7,by rw [U HFL],U uo⟩
   ·rintro x xn V' i' o' ⟨f,rfl,K⟩ xp hx Z xz D
    have n5:i' < 5→x[5]? = some false:=fun xL=>by
     rcases bQ hx (show 5 < 6 by omega) with h | h
     ·exact h
     ·have:=xp 5 _ rfl h ⟨i',.phase⟩ (by rcases (by omega:i' = 0 ∨ i' = 1 ∨ i' = 2 ∨ i' = 3 ∨ i' = 4) with rfl | rfl | rfl | rfl | rfl <;> simp) rfl
      rw [xz] at this; cases this
    have n4:i' = 0 ∨ i' = 1 ∨ i' = 3→x[4]? = some false:=fun xL=>by
     rcases bQ hx (show 4 < 6 by omega) with h | h
     ·exact h
     ·have:=xp 4 _ rfl h ⟨i',.phase⟩ (by rcases xL with rfl | rfl | rfl <;> simp) rfl
      rw [xz] at this; cases this
    have xA:=Y K
    clear xp
    match i',Z with
    | 0,Z =>
     obtain rfl:=ya Z
     clear D K
     rw [if_pos (by rfl)];unfold Oper.wp;go_simp
     exact ⟨upd f 0 u0,by simp [upd],r8_val (U xA) 0 _ (by omega) (fun _=>rfl) (by omega) (by omega) (by omega)⟩
    | 1,Z =>
     obtain rfl:=ya Z
     have eV:=K.s0 (n4 (by omega))
     subst eV
     obtain ⟨c0,c1,c2,c3,c4,c5⟩:=yD (U oj)
     clear D K
     rw [if_pos (by rfl)];unfold Oper.wp;go_simp
     exact ⟨upd f 1 (.agg #[H next,H cs,H tt,H left,H cl,yk cg]),by simp [upd],r8_val (U xA) 1 _ (by omega) (by omega) (fun _=>rfl) (by omega) (by omega)⟩
    | 2,Z =>
     obtain rfl:=ya Z
     clear D K
     rw [if_pos (by rfl)];unfold Oper.wp;go_simp
     exact ⟨upd f 2 u7,by simp [upd],r8_val (U xA) 2 _ (by omega) (by omega) (by omega) (fun _=>rfl) (by omega)⟩
    | 3,Z =>
     obtain rfl:=ya Z
     have g0:=K.f0 (ye D 0 rfl)
     clear D K
     rw [if_pos (by rfl)];unfold Oper.wp;go_simp
     exact ⟨upd f 3 u0,by simp [upd,g0],r8_val (U xA) 3 _ (by omega) (by omega) (by omega) (by omega) (fun _=>rfl)⟩
    | 4,Z =>
     obtain rfl:=ya Z
     have g1:=K.f1 (ye D 1 rfl)
     have eV:=K.s0 xz
     subst eV
     have xF:=U jj
     obtain ⟨y0,z0,q0⟩:=ze xF (j:=0) (by omega)
     obtain ⟨y1,z1,q1⟩:=ze xF (j:=1) (by omega)
     obtain ⟨y2,z2,q2⟩:=ze xF (j:=2) (by omega)
     obtain ⟨y3,z3,q3⟩:=ze xF (j:=3) (by omega)
     obtain ⟨y4,z4,q4⟩:=ze xF (j:=4) (by omega)
     obtain ⟨y5,z5,q5⟩:=ze xF (j:=5) (by omega)
     have n5':=n5 (by omega)
     clear D K xF
     rw [if_pos (by rfl)];unfold Oper.wp;go_simp
     have HR4:=r8_4 (U xA) xz n5'
     conv at HR4=>arg 9; rw [U HV1]
     exact ⟨f,by simp [g1],HR4⟩
    | 5,Z =>
     obtain rfl:=ya Z
     have g2:=K.f2 (ye D 2 rfl)
     have k4:x[4]? = some true:=D ⟨4,.chain⟩ (by simp) rfl
     have eV:=K.s1 k4 xz
     subst eV
     have HR5:=r8_5 (U xA) k4 xz
     clear D K
     rw [if_pos (by rfl)];unfold Oper.wp;go_simp
     exact ⟨upd f 5 u7,by simp [upd,g2],HR5⟩
    | i' + 6,Z=>simp at Z
  ·have h0:0 < left:=by simp only at pj; omega
   obtain ⟨k2,_,hk2,hmi2,hme2⟩:=mi_step hmi h0 hfo (by rw [← cross_meet (U HP),← U om]; exact hcr)
   obtain rfl:i = k2:=rise_id hmi.good.rise ox hk2 rfl
   have Z:=hmi.good.left o (yP ox)
   have HMI2:=Y hmi2
   have HIO:=Y ox
   clear hmi2 hmi hfo hcr pj hk2 ox
   have hii:(0:Int) ≤ i:=by omega
   refine eI fun hR xv=>?_
   go_wp2_with fail
   refine U xv _ _ ?_
   clear xv
   refine eI fun hR xv=>?_
   refine wp_block ?_
   refine eI fun K2 kg=>?_
   have hsf:=sfl
   go_wp2_with fail
   refine U kg _ _ ?_
   clear kg
   have vp:=eE wr (Obj.cells #[H 0,H 0,H 0,H 0,H 0,H 0,H 0,yj 0,yk ⟨#[]⟩,H 0,H 0,H 0,H 0,H 0] 46)
   have hsY:=zh wr (Obj.cells #[H 0,H 0,H 0,H 0,H 0,H 0,H 0,yj 0,yk ⟨#[]⟩,H 0,H 0,H 0,H 0,H 0] 46)
   have oj:=Y (zb (U oj) vp (by omega))
   have kF:=Y (zg (U kF) vp (by omega))
   have jj:=Y (zg (U jj) vp (by omega))
   have HER2:=Y (zJ (U jM) vp)
   have js:Hid (∀ g,u7.ownBlock = some g→w.heap.size + 1 + 1 ≤ g∧g < wr.heap.size):=fun g hg=>(U jM).lt g hg
   have ji:=Y (zn (U ji) vp tg)
   have HTE:=Y (zw wr [H 0,H 0,H 0,H 0,H 0,H 0,H 0,yj 0,yk ⟨#[]⟩,H 0,H 0,H 0,H 0,H 0] 46)
   have xK:=Y (eH (U xK) vp)
   clear vp jM jR
   have HTE:Hid (World.there (wr.alloc (Obj.cells #[H 0,H 0,H 0,H 0,H 0,H 0,H 0,yj 0,yk ⟨#[]⟩,H 0,H 0,H 0,H 0,H 0] 46)) wr.heap.size 0 14):=U HTE
   generalize wr.alloc (Obj.cells #[H 0,H 0,H 0,H 0,H 0,H 0,H 0,yj 0,yk ⟨#[]⟩,H 0,H 0,H 0,H 0,H 0] 46) = yb at oj kF jj HER2 ji HTE xK hsY ⊢
   generalize wr.heap.size = eG at js HTE hsY qW ⊢
   obtain ⟨c0,c1,c2,c3,c4,c5⟩:=yD (U oj)
   refine eI fun K2 kg=>?_
   go_wp2_with fail
   refine (l04Hit_any _ l' ⟨next,cs,tt,left,cl,cg⟩ o i yb (U ji) (by omega) (U HIO) pL hl1 (by omega) Z.2).mono ?_
   rintro e w2 ⟨v2,rfl,ho2,xX⟩
   simp only [Od.vs,Ev.vs,trE,zCm]
   simp only at ho2
   have hq0':0 ≤ min left o.left:=by omega
   generalize min left o.left = q at ho2 HMI2 hme2 hq0' ⊢
   have vU:=Y ho2
   have xE:=Y xX
   have hTa:=zg (U kF) xX (by omega)
   have oZ:=zg (U HTE) xX (by omega)
   have qN:=Y hTa
   have HTB:=Y oZ
   have HT1':=Y (zg (U jj) xX (by omega))
   have HER3:=Y (zJ (U HER2) xX)
   have HBW2:=Y (eH (U xK) xX)
   have ua:=xX.size
   obtain ⟨ya0,za0,qa0⟩:=ze hTa (j:=0) (by omega)
   obtain ⟨ya1,za1,qa1⟩:=ze hTa (j:=1) (by omega)
   obtain ⟨ya2,za2,qa2⟩:=ze hTa (j:=2) (by omega)
   obtain ⟨ya3,za3,qa3⟩:=ze hTa (j:=3) (by omega)
   obtain ⟨ya4,za4,qa4⟩:=ze hTa (j:=4) (by omega)
   obtain ⟨ya5,za5,qa5⟩:=ze hTa (j:=5) (by omega)
   obtain ⟨yb0,zb0,qb0⟩:=ze oZ (j:=0) (by omega)
   obtain ⟨yb1,zb1,qb1⟩:=ze oZ (j:=1) (by omega)
   obtain ⟨yb2,zb2,qb2⟩:=ze oZ (j:=2) (by omega)
   obtain ⟨yb3,zb3,qb3⟩:=ze oZ (j:=3) (by omega)
   obtain ⟨yb4,zb4,qb4⟩:=ze oZ (j:=4) (by omega)
   obtain ⟨yb5,zb5,qb5⟩:=ze oZ (j:=5) (by omega)
   obtain ⟨yb6,zb6,qb6⟩:=ze oZ (j:=6) (by omega)
   obtain ⟨yb7,zb7,qb7⟩:=ze oZ (j:=7) (by omega)
   obtain ⟨yb8,zb8,qb8⟩:=ze oZ (j:=8) (by omega)
   obtain ⟨yb9,zb9,qb9⟩:=ze oZ (j:=9) (by omega)
   obtain ⟨yb10,zb10,qb10⟩:=ze oZ (j:=10) (by omega)
   obtain ⟨yb11,zb11,qb11⟩:=ze oZ (j:=11) (by omega)
   obtain ⟨yb12,zb12,qb12⟩:=ze oZ (j:=12) (by omega)
   obtain ⟨yb13,zb13,qb13⟩:=ze oZ (j:=13) (by omega)
   have hES:eG ≠ w.heap.size:=by omega
   have hSE:w.heap.size ≠ eG:=by omega
   clear c0 c1 c2 c3 c4 c5 ho2 xX hTa oZ kF HTE jj HER2 xK ji oj
   go_wp2_with fail
   refine U kg _ _ ?_
   clear kg za0 qa0 za1 qa1 za2 qa2 za3 qa3 za4 qa4 za5 qa5 zb0 qb0 zb1 qb1 zb2 qb2 zb3 qb3 zb4 qb4 zb5 qb5 zb6 qb6 zb7 qb7 zb8 qb8 zb9 qb9 zb10 qb10 zb11 qb11 zb12 qb12 zb13 qb13
   have eW:((((((((((((((((((((w2.setCell (J w.heap.size 0) (H next)).setCell (J w.heap.size 1) (H cs)).setCell (J w.heap.size 2) (H tt)).setCell (J w.heap.size 3) (H (left - q))).setCell (J w.heap.size 4) (H cl)).setCell (J w.heap.size 5) (yk cg)).setCell (J eG 0) (H 3)).setCell (J eG 1) (H 0)).setCell (J eG 2) (H 0)).setCell (J eG 3) (H 0)).setCell (J eG 4) (H 0)).setCell (J eG 5) (H 0)).setCell (J eG 6) (H 0)).setCell (J eG 7) (yj 0)).setCell (J eG 8) (yk ⟨#[]⟩)).setCell (J eG 9) (H next)).setCell (J eG 10) (H o.id)).setCell (J eG 11) (H q)).setCell (J eG 12) (H o.ticks)).setCell (J eG 13) (H 0)) = (w2.setCells w.heap.size 0 [H next,H cs,H tt,H (left - q),H cl,yk cg]).setCells eG 0 [H 3,H 0,H 0,H 0,H 0,H 0,H 0,yj 0,yk ⟨#[]⟩,H next,H o.id,H q,H o.ticks,H 0]:=rfl
   rw [eW]
   clear eW
   obtain ⟨V1,qj⟩:∃ V:World,V = w2.setCells w.heap.size 0 [H next,H cs,H tt,H (left - q),H cl,yk cg]:=⟨_,rfl⟩
   rw [← qj]
   have jD:Hid (V1.rangeAt w.heap.size 0 [H next,H cs,H tt,H (left - q),H cl,yk cg]):=by rw [qj]; exact yY w2 _ 0 _ (fun j R=>U qN j R)
   have kB:Hid (V1.there w.heap.size 0 6):=by rw [qj]; exact xc (U qN) _ _ _
   have uP:Hid (V1.there (w.heap.size + 1) 0 6):=by rw [qj]; exact xc (U HT1') _ _ _
   have qh:Hid (V1.there eG 0 14):=by rw [qj]; exact xc (U HTB) _ _ _
   have vn:Hid (ORow V1 yb.heap.size v2 (aM l' i o q)):=by rw [qj]; exact dj (by omega) _ _ _ (U vU)
   have ps:Hid (ERow V1 (w.heap.size + 1 + 1) u7 ts):=by rw [qj]; exact dR (fun e=>by have:=(U js _ e.symm).1; omega) _ _ _ (U HER3)
   have xU:Hid (yn w V1):=by rw [qj]; exact zo _ tg _ _ _ (U HBW2)
   have xC:V1.heap.size = w2.heap.size:=by rw [qj,bZ]
   clear qj
   obtain ⟨V2,kJ⟩:∃ V:World,V = V1.setCells eG 0 [H 3,H 0,H 0,H 0,H 0,H 0,H 0,yj 0,yk ⟨#[]⟩,H next,H o.id,H q,H o.ticks,H 0]:=⟨_,rfl⟩
   rw [← kJ]
   have vJ:Hid (V2.rangeAt eG 0 [H 3,H 0,H 0,H 0,H 0,H 0,H 0,yj 0,yk ⟨#[]⟩,H next,H o.id,H q,H o.ticks,H 0]):=by rw [kJ]; exact yY V1 _ 0 _ (fun j R=>U qh j R)
   have oE:Hid (V2.rangeAt w.heap.size 0 [H next,H cs,H tt,H (left - q),H cl,yk cg]):=by rw [kJ]; exact ec (U jD) (by omega)
   have HG4:Hid (V2.there w.heap.size 0 6):=by rw [kJ]; exact xc (U kB) _ _ _
   have jB:Hid (V2.there (w.heap.size + 1) 0 6):=by rw [kJ]; exact xc (U uP) _ _ _
   have qA:Hid (ORow V2 yb.heap.size v2 (aM l' i o q)):=by rw [kJ]; exact dj (by omega) _ _ _ (U vn)
   have ah:Hid (ERow V2 (w.heap.size + 1 + 1) u7 ts):=by rw [kJ]; exact dR (fun e=>by have:=(U js _ e.symm).2; omega) _ _ _ (U ps)
   have ud:Hid (yn w V2):=by rw [kJ]; exact zo _ (by omega) _ _ _ (U xU)
   have pl:yb.heap.size ≤ V2.heap.size:=by rw [kJ,bZ,xC]; exact ua
   clear kJ jD kB uP qh vn ps xU xC vU xE qN HTB HT1' HER3 HBW2
   obtain ⟨e0,e1,e2,e3,e4,e5,e6,e7,e8,e9,oG,e11,e12,e13⟩:=yG (U vJ)
   have HE3:=Y ((U ah).alloc (Obj.cells #[H 3,H 0,H 0,H 0,H 0,H 0,H 0,yj 0,yk ⟨#[]⟩,H next,H o.id,H q,H o.ticks,H 0] 46))
   have hs5:V2.heap.size + 1 ≤ (V2.alloc (Obj.cells #[H 3,H 0,H 0,H 0,H 0,H 0,H 0,yj 0,yk ⟨#[]⟩,H next,H o.id,H q,H o.ticks,H 0] 46)).heap.size:=Nat.le_of_eq (zh _ _).symm
   have vG:=eE V2 (Obj.cells #[H 3,H 0,H 0,H 0,H 0,H 0,H 0,yj 0,yk ⟨#[]⟩,H next,H o.id,H q,H o.ticks,H 0] 46)
   have vh:Hid (∀ j u,[H 3,H 0,H 0,H 0,H 0,H 0,H 0,yj 0,yk ⟨#[]⟩,H next,H o.id,H q,H o.ticks,H 0][j]? = some u→(V2.alloc (Obj.cells #[H 3,H 0,H 0,H 0,H 0,H 0,H 0,yj 0,yk ⟨#[]⟩,H next,H o.id,H q,H o.ticks,H 0] 46)).cell? (((J V2.heap.size 0):Addr).add j) = some u):=fun j u hu=>cy V2 [H 3,H 0,H 0,H 0,H 0,H 0,H 0,yj 0,yk ⟨#[]⟩,H next,H o.id,H q,H o.ticks,H 0] 46 j u hu
   have kD:=Y (zm (U qA) vG)
   have HR3:=Y (zb (U oE) vG (by omega))
   have og:=Y (zg (U HG4) vG (by omega))
   have pu:=Y (zg (U jB) vG (by omega))
   have jA:=Y (eH (U ud) vG)
   have HEBv:Hid (∀ g,u7.ownBlock = some g→w.heap.size + 1 + 1 ≤ g):=fun g hg=>(U js g hg).1
   clear vG qA oE HG4 jB ud js
   go_wp2_with (at_builtin; go_must (refine wpList_append_own _ rfl _ _ 38 rfl (w.heap.size + 1 + 1) 46 i0 _ 14 120 Tryz.underlying38 uG uF uI uT rfl (by decide) u7 ts.length (ts.flatMap Ev.vs) rfl (U HE3) (J V2.heap.size 0) 1 1 [H 3,H 0,H 0,H 0,H 0,H 0,H 0,yj 0,yk ⟨#[]⟩,H next,H o.id,H q,H o.ticks,H 0] rfl rfl (U vh) (by simp [Value.oneCell']) (by unfold maxLen; omega) (by omega) (by omega) ?_); intro v5 w5 vy aC _; have pw:=Y vy; have jB:=Y aC; clear vy aC)
   have HRO:=Y ((U kD).kept (U jB) (zD (U kD) (U HE3) (by decide)))
   have jC:Hid (∀ b,b < w.heap.size + 1 + 1→some b ≠ u7.ownBlock):=fun b X e=>by have:=U HEBv b e.symm; omega
   have px:=Y (zu (U HR3) (U jB) (by omega) (U jC _ (by omega)))
   have jk:=Y (bH (U og) (U jB) (by omega) (U jC _ (by omega)))
   have jl:=Y (bH (U pu) (U jB) (by omega) (U jC _ (by omega)))
   have oe:=Y ((U jA).grown (U jB) (U jA).size (fun k hk=>by have:=U HEBv k hk; omega))
   have hs6:=(U jB).size
   have qL:Hid (ERow w5 (w.heap.size + 1 + 1) v5 (ts ++ [trE next o.id q o.ticks])):=by
    show w5.ownsRow _ _ _ _ (ts ++ [trE next o.id q o.ticks]).length _
    rw [yQ,List.flatMap_append]
    have:=U pw
    simpa [Ev.vs,trE,zCm] using this
   obtain ⟨x0,x1,x2,x3,x4,x5⟩:=yD (U px)
   try simp only [Exit.inBlock,Exit.then]
   refine U xv _ _ ?_
   clear xv HE3 vh kD HR3 og pu jA jB pw e0 e1 e2 e3 e4 e5 e6 e7 e8 e9 oG e11 e12 e13
   have jX:=(U HMI2).good
   have hln:=jX.len
   go_wp2_with fail
   refine (l04Next_any v2 (aM l' i o q) ⟨next,cs,tt,left - q,cl,cg⟩ w5 (zN (U HRO) (by omega)) jX.rise (by omega) (U HS)).mono ?_
   rintro e w6 ⟨k6,rfl,hnx6,kK⟩
   have HN:Hid (MaI ⟨ck,cs,ct,cl,cq,ci,cp,cg⟩ next w (.slice a l.length A) l tt ty (2 * (aM l' i o q).length + (if 0 < left - q then 1 else 0)) v2 v5 (H k6) w6) :=
    ⟨aM l' i o q,left - q,ts ++ [trE next o.id q o.ticks],k6,rfl,.inr (cj (zm (U HRO) kK) (by omega)),zJ (U qL) kK,hnx6,U HMI2,zb (U px) kK (by omega),zg (U jk) kK (by omega),zg (U jl) kK (by omega),(U oe).trans (kK.mono (U oe).size),by have:=kK.size; omega,Nat.le_refl _⟩
   clear hnx6 kK
   go_wp2_with fail
   go_roundg (2 * (aM l' i o q).length + (if 0 < left - q then 1 else 0))
   case measure=>rw [if_pos h0] at hme; omega
   case rel=>exact U HN
end Go.Proofs.YtbakanofkghmiaaGreat
