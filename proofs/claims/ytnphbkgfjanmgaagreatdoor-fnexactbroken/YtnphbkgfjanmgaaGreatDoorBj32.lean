/-
  A taker trades as far as it goes, by the model: proved by walking the function.
-/
import Derived.Test.YtnphbkgfjanmgaaGreatDoorBj31
set_option linter.unusedVariables false
set_option maxHeartbeats 6400000
set_option maxRecDepth 100000
namespace Go.Proofs.YtnphbkgfjanmgaaGreatDoor
open Go.RowKit
theorem ew {B b:Nat} {v:Value} {l:List Ev} (Y:some b ≠ v.ownBlock):∀ (vs:List Value) (o:Nat) (W:World),ERow W B v l→ERow (W.setCells b o vs) B v l
 | [],_,_,h=>h
 | u :: us,o,W,h=>by rw [World.setCells]; exact ew Y us (o + 1) _ (bp h Y o u)
def MaI (c:Cm) (next:Int) (w:World) (v:Value) (l:List Od) (tt:Int) (cl:List Od × Int × List Ev) (m:Nat) (lv ev kv:Value) (wr:World):Prop :=
 ∃ (l':List Od) (left:Int) (ts:List Ev) (k:Int),kv = I k∧((lv = v∧l' = l) ∨ ORow wr (w.heap.size + 1 + 1) lv l')∧ERow wr (w.heap.size + 1 + 1) ev ts∧NexS l' ⟨next,c.s,tt,left,c.l,c.g⟩ k∧MI c next cl l' left ts ∧
  wr.rangeAt w.heap.size 0 [I next,I c.s,I tt,I left,I c.l,yk c.g]∧wr.there w.heap.size 0 6∧wr.there (w.heap.size + 1) 0 6∧yn w wr∧w.heap.size + 1 + 1 ≤ wr.heap.size∧2 * l'.length + (if 0 < left then 1 else 0) ≤ m
theorem ma_end {c:Cm} {next tt:Int} {cl:List Od × Int × List Ev} {l':List Od} {left:Int} {ts:List Ev} (htt:tt = tkS c.p) (hs:c.s = 1 ∨ c.s = 2) (hp:prcB c = true) (hm:MI c next cl l' left ts) (h:left = 0 ∨ aV l' (othS c.s) = none ∨ ∃ o,aV l' (othS c.s) = some o∧bR c.s tt o = false):cl = (l',left,ts):=by
 subst htt
 rcases h with h | h | ⟨o,h,E⟩
 ·exact mi_done hm (by omega)
 ·exact mi_none hm h
 ·rw [cross_meet hp] at E; exact mi_stop hm h E
def MatEnd (w:World) (v:Value) (l:List Od) (w':World) (v' ve:Value) (cl:List Od × Int × List Ev):Prop :=
 ((v' = v∧cl.1 = l) ∨ ORow w' w.heap.size v' cl.1)∧ERow w' w.heap.size ve cl.2.2∧yn w w'
theorem eRow_base {W:World} {B B':Nat} {v:Value} {l:List Ev} (h:ERow W B v l) (hB:B' ≤ B):ERow W B' v l :=
 ⟨h.1,by
  rcases h.2 with h | ⟨g',c',xF,Q,E,h3⟩
  ·exact .inl h
  ·exact .inr ⟨g',c',xF,Q,yN hB E,h3⟩⟩
theorem l04Match_any (v:Value) (l:List Od) (c:Cm) (next:Int) (w:World) (hr:RdR Od.vs 6 w v l) (hg:GoodL l) (hs:c.s = 1 ∨ c.s = 2) (hp:prcB c = true) (ah:0 ≤ c.q) (oO:c.q ≤ 1000000) :
  Calls Tryz.prog 183 #[v,.agg #[I next,I c.s,I (tkS c.p),I c.q,I c.l,yk c.g]] w fun e w'=>∃ v' ve,e = .returned (.tuple #[v',.agg #[I next,I c.s,I (tkS c.p),I (matL c next 21 l c.q []).2.1,I c.l,yk c.g],ve])∧MatEnd w v l w' v' ve (matL c next 21 l c.q []):=by
 obtain ⟨i0,vA,uL,uM,uF⟩:=info_parts infoEv
 have HMI0:=M (mi_start (c:=c) (id:=next) hg ah oO)
 have HR:=M hr
 have qL:=M hg
 have HS:=M hs
 have HP:=M hp
 generalize htt:tkS c.p = tt
 have HTT:=M htt.symm
 generalize matL c next 21 l c.q [] = cl at HMI0 ⊢
 obtain ⟨a,cap,rfl,xA,hc⟩:=hr
 obtain ⟨ck,L,ct,F,cq,ci,X,cg⟩:=c
 simp only at hs ah oO htt HTT HS ⊢
 clear hc hg hp xA htt
 have xK:=zi w (Obj.cells #[I next,I L,I tt,I cq,I F,yk cg] 78)
 have ue:((w.alloc (Obj.cells #[I next,I L,I tt,I cq,I F,yk cg] 78)).alloc (Obj.cells #[I 0,I 0,I 0,I 0,I 0,yk ⟨#[]⟩] 78)).heap.size = w.heap.size + 1 + 1:=by rw [zi,xK]
 have jJ:(((w.alloc (Obj.cells #[I next,I L,I tt,I cq,I F,yk cg] 78)).alloc (Obj.cells #[I 0,I 0,I 0,I 0,I 0,yk ⟨#[]⟩] 78)).alloc (Obj.cells #[] 52)).heap.size = w.heap.size + 1 + 1 + 1:=by rw [zi,ue]
 have r1:=zn w [I next,I L,I tt,I cq,I F,yk cg] 78
 have t1:=zY w [I next,I L,I tt,I cq,I F,yk cg] 78
 have t2:=zY (w.alloc (Obj.cells #[I next,I L,I tt,I cq,I F,yk cg] 78)) [I 0,I 0,I 0,I 0,I 0,yk ⟨#[]⟩] 78
 rw [xK] at t2
 have e3:=World.ownsRow_made (base:=w.heap.size + 1 + 1) (e:=52) (size:=14) ((w.alloc (Obj.cells #[I next,I L,I tt,I cq,I F,yk cg] 78)).alloc (Obj.cells #[I 0,I 0,I 0,I 0,I 0,yk ⟨#[]⟩] 78)) #[] 0 (by omega) (by decide) rfl
 rw [ue] at e3
 have b1:=fE w (Obj.cells #[I next,I L,I tt,I cq,I F,yk cg] 78)
 have b2:Below (w.heap.size + 1) (w.alloc (Obj.cells #[I next,I L,I tt,I cq,I F,yk cg] 78)) ((w.alloc (Obj.cells #[I next,I L,I tt,I cq,I F,yk cg] 78)).alloc (Obj.cells #[I 0,I 0,I 0,I 0,I 0,yk ⟨#[]⟩] 78)):=(Below.refl _ _).alloc (by omega) _
 have b3:Below (w.heap.size + 1 + 1) ((w.alloc (Obj.cells #[I next,I L,I tt,I cq,I F,yk cg] 78)).alloc (Obj.cells #[I 0,I 0,I 0,I 0,I 0,yk ⟨#[]⟩] 78)) (((w.alloc (Obj.cells #[I next,I L,I tt,I cq,I F,yk cg] 78)).alloc (Obj.cells #[I 0,I 0,I 0,I 0,I 0,yk ⟨#[]⟩] 78)).alloc (Obj.cells #[] 52)):=(Below.refl _ _).alloc (by omega) _
 have b23:=b2.trans (b3.mono (by omega))
 have HX:Hid (_∧_∧_∧_):=⟨zc r1 b23 (by omega),zo t1 b23 (by omega),zo t2 b3 (by omega),e3⟩
 have xL:=M (b1.trans (b23.mono (by omega)))
 have vT:=M jJ
 clear xK ue jJ r1 t1 t2 b1 b2 b3 b23 e3
 go_enter Tryz.func183,Tryz.ntmps183
 refine fI fun hR xU=>?_
 go_wp2_with fail
 refine H xU _ _ ?_
 clear xU
 refine fI fun hR xU=>?_
 go_wp2_with fail
 refine H xU _ _ ?_
 clear xU
 generalize (((w.alloc (Obj.cells #[I next,I L,I tt,I cq,I F,yk cg] 78)).alloc (Obj.cells #[I 0,I 0,I 0,I 0,I 0,yk ⟨#[]⟩] 78)).alloc (Obj.cells #[] 52)) = cp at HX xL vT ⊢
 have HX:Hid (cp.rangeAt w.heap.size 0 [I next,I L,I tt,I cq,I F,yk cg]∧cp.there w.heap.size 0 6∧cp.there (w.heap.size + 1) 0 6∧cp.ownsRow (w.heap.size + 1 + 1) 52 14 (.slice (some (U (w.heap.size + 1 + 1) 0)) 0 0) 0 []):=H HX
 obtain ⟨c0,c1,c2,c3,c4,c5⟩:=yC (H HX).1
 go_wp2_with fail
 refine (fh _ l ⟨next,L,tt,cq,F,cg⟩ cp (zh (H HR) (H xL) ya) (H qL).rise (by have:=(H qL).len; omega) (H HS)).mono ?_
 rintro e w2 ⟨k,rfl,qe,xJ⟩
 have vZ:Hid (MaI ⟨ck,L,ct,F,cq,ci,X,cg⟩ next w (.slice a l.length cap) l tt cl (2 * l.length + 1) (.slice a l.length cap) (.slice (some (U (w.heap.size + 1 + 1) 0)) 0 0) (I k) w2):=by
  have jJ:=H vT
  refine ⟨l,cq,[],k,rfl,.inl ⟨rfl,rfl⟩,?_,qe,H HMI0,zc (H HX).1 xJ (by omega),zo (H HX).2.1 xJ (by omega),zo (H HX).2.2.1 xJ (by omega),(H xL).trans (xJ.mono (H xL).size),by have:=xJ.size; omega,by split <;> omega⟩
  exact cU (l:=[]) (H HX).2.2.2 xJ
 clear qe xJ c0 c1 c2 c3 c4 c5 HX xL vT HMI0
 go_wp2_with fail
 go_loopg [0,7,8] (2 * l.length + 1) (fun m lv ev kv wr=>MaI ⟨ck,L,ct,F,cq,ci,X,cg⟩ next w (.slice a l.length cap) l tt cl m lv ev kv wr)
 case atStart=>exact H vZ
 case round =>
  obtain ⟨l',left,ts,kx,rfl,hlv,her,qe,pZ,hrt,ht0,ht1,kC,kS,hme⟩:=hrel
  have ay:=M her
  have HMI:=M pZ
  have oG:=M hrt
  have HT0:=M ht0
  have je:=M ht1
  have ua:=M kC
  have HLV:=M hlv
  have uR:Hid (RdR Od.vs 6 wr u0 l'):=by
   rcases hlv with ⟨rfl,rfl⟩ | h
   ·exact zh (H HR) kC ya
   ·exact zK h (by have:=pZ.good.len; omega)
  have xA:=pZ.good.len
  have jH:=pZ.l0
  have hl1:=pZ.l1
  have hfew:=pZ.few
  clear her hrt ht0 ht1 kC vZ hlv
  rcases qe with ⟨rfl,vo⟩ | ⟨i,o,rfl,hi,qT,ow,kG,pC⟩
  ·have HF:=M (ma_end (H HTT) (H HS) (H HP) pZ vo)
   clear vo pZ
   go_wp2_with fail
   obtain ⟨V0,px⟩:∃ xn:World,xn = { wr with drawn:=wr.drawn + 1 }:=⟨_,rfl⟩
   have HLV:Hid ((u0 = .slice a l.length cap∧l' = l) ∨ ORow V0 (w.heap.size + 1 + 1) u0 l'):=by rw [px]; exact H HLV
   have ay:Hid (ERow V0 (w.heap.size + 1 + 1) u7 ts):=by rw [px]; exact H ay
   have oG:Hid (V0.rangeAt w.heap.size 0 [I next,I L,I tt,I left,I F,yk cg]):=by rw [px]; exact H oG
   have je:Hid (V0.there (w.heap.size + 1) 0 6):=by rw [px]; exact H je
   have ua:Hid (yn w V0):=by rw [px]; exact (H ua).trans ⟨rfl,rfl,rfl,Nat.le_refl _,fun _ _=>rfl⟩
   obtain ⟨V1,jD⟩:∃ xn:World,xn = V0.setCells (w.heap.size + 1) 0 [I next,I L,I tt,I left,I F,yk cg]:=⟨_,rfl⟩
   have vj:Hid (V1.rangeAt (w.heap.size + 1) 0 [I next,I L,I tt,I left,I F,yk cg]):=by rw [jD]; exact yX V0 _ 0 _ (fun j O=>H je j O)
   have xp:Hid (MatEnd w (.slice a l.length cap) l V1 u0 u7 cl):=by
    rw [H HF]
    refine ⟨?_,?_,?_⟩
    ·rcases H HLV with h | h
     ·exact .inl h
     ·exact .inr (by rw [jD]; exact zS (dM (by omega) _ _ _ h) (by omega))
    ·rw [jD]
     refine eRow_base (ew (fun e=>?_) _ _ _ (H ay)) (show w.heap.size ≤ w.heap.size + 1 + 1 by omega)
     have:=((H ay).lt _ e.symm).1
     omega
    ·rw [jD]; exact zj _ (by omega) _ _ _ (H ua)
   have HFL:Hid (cl.2.1 = left):=by show _ = _; rw [H HF]
   have HV0:=M px
   have HV1:=M jD
   clear px jD HLV ay ua
   refine zk (R8A (fun f=>{ tmps:=#[u0,.agg #[I next,I L,I tt,I cq,I F,yk cg],Z,J w.heap.size 0,f 3,J (w.heap.size + 1) 0,f 5,u7,I (-1),u9,.slice (some (U (w.heap.size + 1 + 1) 0)) 0 0,.slice a l.length cap,.agg #[I next,I L,I tt,I cq,I F,yk cg],I k,I (-1),.bool false,u16,u17,u18,u19,u20,u21,u22,u23,u24,u25,u26,u27,u28,u29,u30,u31,f 0,f 1,f 2],defers:=[] }) u0 (.agg #[I next,I L,I tt,I left,I F,yk cg]) u7 V0 V1 V1) (by kernel_rfl) ?_ ?_ ?_
   ·exact ⟨fun j=>if j = 3 then .slice none 0 0 else if j = 5 then .slice none 0 0 else Z,rfl,⟨by simp,by simp,by simp,by simp,by simp,fun _=>(H HV0).symm,by simp,by simp⟩⟩
   ·rintro x fG V' ⟨f,rfl,K⟩ hx xN
    have xo:=bT xN hx (by kernel_rfl)
    have e3:=K.f3 (xo 3 (by simp))
    have e5:=K.f5 (xo 5 (by simp))
    have eW:=K.s2 (xo 4 (by simp)) (xo 5 (by simp))
    subst eW
    simp only [e3,e5]
    clear K xo e3 e5 xN hx
    obtain ⟨d0,d1,d2,d3,d4,d5⟩:=yC (H vj)
    go_wp2_with fail
    try simp (config:={ zetaDelta:=true }) only [Exit.noGoto_ret]
    try simp only [Exit.inBlock,Exit.then]
    refine bodyPost_ret (by simp [results,Tryz.results183,go_sem,d0,d1,d2,d3,d4,d5]; try rfl) rfl ?_
    exact ⟨u0,u7,by rw [H HFL],H xp⟩
   ·rintro x fG V' i' o' ⟨f,rfl,K⟩ V hx N xq D
    have n5:i' < 5→x[5]? = some false:=fun xI=>by
     rcases bB hx (show 5 < 6 by omega) with h | h
     ·exact h
     ·have:=V 5 _ rfl h ⟨i',.phase⟩ (by rcases (by omega:i' = 0 ∨ i' = 1 ∨ i' = 2 ∨ i' = 3 ∨ i' = 4) with rfl | rfl | rfl | rfl | rfl <;> simp) rfl
      rw [xq] at this; cases this
    have n4:i' = 0 ∨ i' = 1 ∨ i' = 3→x[4]? = some false:=fun xI=>by
     rcases bB hx (show 4 < 6 by omega) with h | h
     ·exact h
     ·have:=V 4 _ rfl h ⟨i',.phase⟩ (by rcases xI with rfl | rfl | rfl <;> simp) rfl
      rw [xq] at this; cases this
    have xt:=M K
    clear V
    match i',N with
    | 0,N =>
     obtain rfl:=yb N
     clear D K
     rw [if_pos (by rfl)];unfold Oper.wp;go_simp
     exact ⟨upd f 0 u0,by simp [upd],r8_val (H xt) 0 _ (by omega) (fun _=>rfl) (by omega) (by omega) (by omega)⟩
    | 1,N =>
     obtain rfl:=yb N
     have eV:=K.s0 (n4 (by omega))
     subst eV
     obtain ⟨c0,c1,c2,c3,c4,c5⟩:=yC (H oG)
     clear D K
     rw [if_pos (by rfl)];unfold Oper.wp;go_simp
     exact ⟨upd f 1 (.agg #[I next,I L,I tt,I left,I F,yk cg]),by simp [upd],r8_val (H xt) 1 _ (by omega) (by omega) (fun _=>rfl) (by omega) (by omega)⟩
    | 2,N =>
     obtain rfl:=yb N
     clear D K
     rw [if_pos (by rfl)];unfold Oper.wp;go_simp
     exact ⟨upd f 2 u7,by simp [upd],r8_val (H xt) 2 _ (by omega) (by omega) (by omega) (fun _=>rfl) (by omega)⟩
    | 3,N =>
     obtain rfl:=yb N
     have g0:=K.f0 (ye D 0 rfl)
     clear D K
     rw [if_pos (by rfl)];unfold Oper.wp;go_simp
     exact ⟨upd f 3 u0,by simp [upd,g0],r8_val (H xt) 3 _ (by omega) (by omega) (by omega) (by omega) (fun _=>rfl)⟩
    | 4,N =>
     obtain rfl:=yb N
     have g1:=K.f1 (ye D 1 rfl)
     have eV:=K.s0 xq
     subst eV
     have xY:=H je
     obtain ⟨y0,z0,q0⟩:=zm xY (j:=0) (by omega)
     obtain ⟨y1,z1,q1⟩:=zm xY (j:=1) (by omega)
     obtain ⟨y2,z2,q2⟩:=zm xY (j:=2) (by omega)
     obtain ⟨y3,z3,q3⟩:=zm xY (j:=3) (by omega)
     obtain ⟨y4,z4,q4⟩:=zm xY (j:=4) (by omega)
     obtain ⟨y5,z5,q5⟩:=zm xY (j:=5) (by omega)
     have n5':=n5 (by omega)
     clear D K xY
     rw [if_pos (by rfl)];unfold Oper.wp;go_simp
     have pp:=r8_4 (H xt) xq n5'
     conv at pp=>arg 9; rw [H HV1]
     exact ⟨f,by simp [g1],pp⟩
    | 5,N =>
     obtain rfl:=yb N
     have g2:=K.f2 (ye D 2 rfl)
     have k4:x[4]? = some true:=D ⟨4,.chain⟩ (by simp) rfl
     have eV:=K.s1 k4 xq
     subst eV
     have vD:=r8_5 (H xt) k4 xq
     clear D K
     rw [if_pos (by rfl)];unfold Oper.wp;go_simp
     exact ⟨upd f 5 u7,by simp [upd,g2],vD⟩
    | i' + 6,N=>simp at N
  ·have h0:0 < left:=by simp only at pC; omega
   obtain ⟨k2,_,pX,hmi2,hme2⟩:=mi_step pZ h0 ow (by rw [← cross_meet (H HP),← H HTT]; exact kG)
   obtain rfl:i = k2:=rise_id pZ.good.rise qT pX rfl
   have N:=pZ.good.left o (yO qT)
   have HMI2:=M hmi2
   have HIO:=M qT
   clear hmi2 pZ ow kG pC pX qT
   have hii:(0:Int) ≤ i:=by omega
   refine fI fun hR xU=>?_
   go_wp2_with fail
   refine H xU _ _ ?_
   clear xU
   refine fI fun hR xU=>?_
   refine wp_block ?_
   refine fI fun K2 oU=>?_
   have hsf:=sfl
   go_wp2_with fail
   refine H oU _ _ ?_
   clear oU
   have oX:=fE wr (Obj.cells #[I 0,I 0,I 0,I 0,I 0,I 0,I 0,yj 0,yk ⟨#[]⟩,I 0,I 0,I 0,I 0,I 0] 52)
   have hsY:=zi wr (Obj.cells #[I 0,I 0,I 0,I 0,I 0,I 0,I 0,yj 0,yk ⟨#[]⟩,I 0,I 0,I 0,I 0,I 0] 52)
   have oG:=M (zc (H oG) oX (by omega))
   have HT0:=M (zo (H HT0) oX (by omega))
   have je:=M (zo (H je) oX (by omega))
   have HER2:=M (cU (H ay) oX)
   have HEB:Hid (∀ g,u7.ownBlock = some g→w.heap.size + 1 + 1 ≤ g∧g < wr.heap.size):=fun g hg=>(H ay).lt g hg
   have uR:=M (zh (H uR) oX ya)
   have qm:=M (zY wr [I 0,I 0,I 0,I 0,I 0,I 0,I 0,yj 0,yk ⟨#[]⟩,I 0,I 0,I 0,I 0,I 0] 52)
   have ua:=M (fH (H ua) oX)
   clear oX ay HLV
   have qm:Hid (World.there (wr.alloc (Obj.cells #[I 0,I 0,I 0,I 0,I 0,I 0,I 0,yj 0,yk ⟨#[]⟩,I 0,I 0,I 0,I 0,I 0] 52)) wr.heap.size 0 14):=H qm
   generalize wr.alloc (Obj.cells #[I 0,I 0,I 0,I 0,I 0,I 0,I 0,yj 0,yk ⟨#[]⟩,I 0,I 0,I 0,I 0,I 0] 52) = hb at oG HT0 je HER2 uR qm ua hsY ⊢
   generalize wr.heap.size = h2 at HEB qm hsY kS ⊢
   obtain ⟨c0,c1,c2,c3,c4,c5⟩:=yC (H oG)
   refine fI fun K2 oU=>?_
   go_wp2_with fail
   refine (l04Hit_any _ l' ⟨next,L,tt,left,F,cg⟩ o i hb (H uR) (by omega) (H HIO) jH hl1 (by omega) N.2).mono ?_
   rintro e w2 ⟨v2,rfl,kI,xJ⟩
   simp only [Od.vs,Ev.vs,trE,zCm]
   simp only at kI
   have hq0':0 ≤ min left o.left:=by omega
   generalize min left o.left = q at kI HMI2 hme2 hq0' ⊢
   have kw:=M kI
   have xu:=M xJ
   have hTa:=zo (H HT0) xJ (by omega)
   have pw:=zo (H qm) xJ (by omega)
   have aD:=M hTa
   have HTB:=M pw
   have HT1':=M (zo (H je) xJ (by omega))
   have HER3:=M (cU (H HER2) xJ)
   have HBW2:=M (fH (H ua) xJ)
   have ue:=xJ.size
   obtain ⟨ya0,za0,qa0⟩:=zm hTa (j:=0) (by omega)
   obtain ⟨ya1,za1,qa1⟩:=zm hTa (j:=1) (by omega)
   obtain ⟨ya2,za2,qa2⟩:=zm hTa (j:=2) (by omega)
   obtain ⟨ya3,za3,qa3⟩:=zm hTa (j:=3) (by omega)
   obtain ⟨ya4,za4,qa4⟩:=zm hTa (j:=4) (by omega)
   obtain ⟨ya5,za5,qa5⟩:=zm hTa (j:=5) (by omega)
   obtain ⟨yb0,zb0,qb0⟩:=zm pw (j:=0) (by omega)
   obtain ⟨yb1,zb1,qb1⟩:=zm pw (j:=1) (by omega)
   obtain ⟨yb2,zb2,qb2⟩:=zm pw (j:=2) (by omega)
   obtain ⟨yb3,zb3,qb3⟩:=zm pw (j:=3) (by omega)
   obtain ⟨yb4,zb4,qb4⟩:=zm pw (j:=4) (by omega)
   obtain ⟨yb5,zb5,qb5⟩:=zm pw (j:=5) (by omega)
   obtain ⟨yb6,zb6,qb6⟩:=zm pw (j:=6) (by omega)
   obtain ⟨yb7,zb7,qb7⟩:=zm pw (j:=7) (by omega)
   obtain ⟨yb8,zb8,qb8⟩:=zm pw (j:=8) (by omega)
   obtain ⟨yb9,zb9,qb9⟩:=zm pw (j:=9) (by omega)
   obtain ⟨yb10,zb10,qb10⟩:=zm pw (j:=10) (by omega)
   obtain ⟨yb11,zb11,qb11⟩:=zm pw (j:=11) (by omega)
   obtain ⟨yb12,zb12,qb12⟩:=zm pw (j:=12) (by omega)
   obtain ⟨yb13,zb13,qb13⟩:=zm pw (j:=13) (by omega)
   have hES:h2 ≠ w.heap.size:=by omega
   have hSE:w.heap.size ≠ h2:=by omega
   clear c0 c1 c2 c3 c4 c5 kI xJ hTa pw HT0 qm je HER2 ua uR oG
   go_wp2_with fail
   refine H oU _ _ ?_
   clear oU za0 qa0 za1 qa1 za2 qa2 za3 qa3 za4 qa4 za5 qa5 zb0 qb0 zb1 qb1 zb2 qb2 zb3 qb3 zb4 qb4 zb5 qb5 zb6 qb6 zb7 qb7 zb8 qb8 zb9 qb9 zb10 qb10 zb11 qb11 zb12 qb12 zb13 qb13
   have eW:((((((((((((((((((((w2.setCell (U w.heap.size 0) (I next)).setCell (U w.heap.size 1) (I L)).setCell (U w.heap.size 2) (I tt)).setCell (U w.heap.size 3) (I (left - q))).setCell (U w.heap.size 4) (I F)).setCell (U w.heap.size 5) (yk cg)).setCell (U h2 0) (I 3)).setCell (U h2 1) (I 0)).setCell (U h2 2) (I 0)).setCell (U h2 3) (I 0)).setCell (U h2 4) (I 0)).setCell (U h2 5) (I 0)).setCell (U h2 6) (I 0)).setCell (U h2 7) (yj 0)).setCell (U h2 8) (yk ⟨#[]⟩)).setCell (U h2 9) (I next)).setCell (U h2 10) (I o.id)).setCell (U h2 11) (I q)).setCell (U h2 12) (I o.ticks)).setCell (U h2 13) (I 0)) = (w2.setCells w.heap.size 0 [I next,I L,I tt,I (left - q),I F,yk cg]).setCells h2 0 [I 3,I 0,I 0,I 0,I 0,I 0,I 0,yj 0,yk ⟨#[]⟩,I next,I o.id,I q,I o.ticks,I 0]:=rfl
   rw [eW]
   clear eW
   obtain ⟨V1,jD⟩:∃ xn:World,xn = w2.setCells w.heap.size 0 [I next,I L,I tt,I (left - q),I F,yk cg]:=⟨_,rfl⟩
   rw [← jD]
   have vj:Hid (V1.rangeAt w.heap.size 0 [I next,I L,I tt,I (left - q),I F,yk cg]):=by rw [jD]; exact yX w2 _ 0 _ (fun j O=>H aD j O)
   have HG1:Hid (V1.there w.heap.size 0 6):=by rw [jD]; exact xb (H aD) _ _ _
   have uh:Hid (V1.there (w.heap.size + 1) 0 6):=by rw [jD]; exact xb (H HT1') _ _ _
   have vi:Hid (V1.there h2 0 14):=by rw [jD]; exact xb (H HTB) _ _ _
   have jA:Hid (ORow V1 hb.heap.size v2 (aR l' i o q)):=by rw [jD]; exact dM (by omega) _ _ _ (H kw)
   have HE1:Hid (ERow V1 (w.heap.size + 1 + 1) u7 ts):=by rw [jD]; exact ew (fun e=>by have:=(H HEB _ e.symm).1; omega) _ _ _ (H HER3)
   have ud:Hid (yn w V1):=by rw [jD]; exact zj _ ya _ _ _ (H HBW2)
   have xK:V1.heap.size = w2.heap.size:=by rw [jD,dm]
   clear jD
   obtain ⟨V2,om⟩:∃ xn:World,xn = V1.setCells h2 0 [I 3,I 0,I 0,I 0,I 0,I 0,I 0,yj 0,yk ⟨#[]⟩,I next,I o.id,I q,I o.ticks,I 0]:=⟨_,rfl⟩
   rw [← om]
   have vk:Hid (V2.rangeAt h2 0 [I 3,I 0,I 0,I 0,I 0,I 0,I 0,yj 0,yk ⟨#[]⟩,I next,I o.id,I q,I o.ticks,I 0]):=by rw [om]; exact yX V1 _ 0 _ (fun j O=>H vi j O)
   have vW:Hid (V2.rangeAt w.heap.size 0 [I next,I L,I tt,I (left - q),I F,yk cg]):=by rw [om]; exact eS (H vj) (by omega)
   have ut:Hid (V2.there w.heap.size 0 6):=by rw [om]; exact xb (H HG1) _ _ _
   have uE:Hid (V2.there (w.heap.size + 1) 0 6):=by rw [om]; exact xb (H uh) _ _ _
   have pJ:Hid (ORow V2 hb.heap.size v2 (aR l' i o q)):=by rw [om]; exact dM (by omega) _ _ _ (H jA)
   have HE2:Hid (ERow V2 (w.heap.size + 1 + 1) u7 ts):=by rw [om]; exact ew (fun e=>by have:=(H HEB _ e.symm).2; omega) _ _ _ (H HE1)
   have xG:Hid (yn w V2):=by rw [om]; exact zj _ (by omega) _ _ _ (H ud)
   have hs4:hb.heap.size ≤ V2.heap.size:=by rw [om,dm,xK]; exact ue
   clear om vj HG1 uh vi jA HE1 ud xK kw xu aD HTB HT1' HER3 HBW2
   obtain ⟨e0,e1,e2,e3,e4,e5,e6,e7,e8,e9,uy,uk,uW,uA⟩:=yF (H vk)
   have HE3:=M ((H HE2).alloc (Obj.cells #[I 3,I 0,I 0,I 0,I 0,I 0,I 0,yj 0,yk ⟨#[]⟩,I next,I o.id,I q,I o.ticks,I 0] 52))
   have hs5:V2.heap.size + 1 ≤ (V2.alloc (Obj.cells #[I 3,I 0,I 0,I 0,I 0,I 0,I 0,yj 0,yk ⟨#[]⟩,I next,I o.id,I q,I o.ticks,I 0] 52)).heap.size:=Nat.le_of_eq (zi _ _).symm
   have uf:=fE V2 (Obj.cells #[I 3,I 0,I 0,I 0,I 0,I 0,I 0,yj 0,yk ⟨#[]⟩,I next,I o.id,I q,I o.ticks,I 0] 52)
   have qP:Hid (∀ j u,[I 3,I 0,I 0,I 0,I 0,I 0,I 0,yj 0,yk ⟨#[]⟩,I next,I o.id,I q,I o.ticks,I 0][j]? = some u→(V2.alloc (Obj.cells #[I 3,I 0,I 0,I 0,I 0,I 0,I 0,yj 0,yk ⟨#[]⟩,I next,I o.id,I q,I o.ticks,I 0] 52)).cell? (((U V2.heap.size 0):Addr).add j) = some u):=fun j u hu=>cellsQ V2 [I 3,I 0,I 0,I 0,I 0,I 0,I 0,yj 0,yk ⟨#[]⟩,I next,I o.id,I q,I o.ticks,I 0] 52 j u hu
   have vv:=M (zM (H pJ) uf)
   have aB:=M (zc (H vW) uf (by omega))
   have qF:=M (zo (H ut) uf (by omega))
   have jz:=M (zo (H uE) uf (by omega))
   have ug:=M (fH (H xG) uf)
   have HEBv:Hid (∀ g,u7.ownBlock = some g→w.heap.size + 1 + 1 ≤ g):=fun g hg=>(H HEB g hg).1
   clear uf pJ vW ut uE xG HEB
   go_wp2_with (at_builtin; go_must (refine wpList_append_own _ rfl _ _ 36 rfl (w.heap.size + 1 + 1) 52 i0 _ 14 120 Tryz.underlying36 vA uL uM uF rfl (by decide) u7 ts.length (ts.flatMap Ev.vs) rfl (H HE3) (U V2.heap.size 0) 1 1 [I 3,I 0,I 0,I 0,I 0,I 0,I 0,yj 0,yk ⟨#[]⟩,I next,I o.id,I q,I o.ticks,I 0] rfl rfl (H qP) (by simp [Value.oneCell']) (by unfold maxLen; omega) (by omega) (by omega) ?_); intro v5 w5 hown5 jc _; have jo:=M hown5; have uE:=M jc; clear hown5 jc)
   have HRO:=M ((H vv).kept (H uE) (eT (H vv) (H HE3) (by decide)))
   have HNS:Hid (∀ b,b < w.heap.size + 1 + 1→some b ≠ u7.ownBlock):=fun b Y e=>by have:=H HEBv b e.symm; omega
   have pL:=M (zw (H aB) (H uE) (by omega) (H HNS _ (by omega)))
   have HT5:=M (eF (H qF) (H uE) (by omega) (H HNS _ (by omega)))
   have ky:=M (eF (H jz) (H uE) (by omega) (H HNS _ (by omega)))
   have qw:=M ((H ug).grown (H uE) (H ug).size (fun k hk=>by have:=H HEBv k hk; omega))
   have hs6:=(H uE).size
   have HEN:Hid (ERow w5 (w.heap.size + 1 + 1) v5 (ts ++ [trE next o.id q o.ticks])):=by
    show w5.ownsRow _ _ _ _ (ts ++ [trE next o.id q o.ticks]).length _
    rw [yP,List.flatMap_append]
    have:=H jo
    simpa [Ev.vs,trE,zCm] using this
   obtain ⟨x0,x1,x2,x3,x4,x5⟩:=yC (H pL)
   try simp only [Exit.inBlock,Exit.then]
   refine H xU _ _ ?_
   clear xU HE3 qP vv aB qF jz ug uE jo e0 e1 e2 e3 e4 e5 e6 e7 e8 e9 uy uk uW uA
   have kH:=(H HMI2).good
   have jk:=kH.len
   go_wp2_with fail
   refine (fh v2 (aR l' i o q) ⟨next,L,tt,left - q,F,cg⟩ w5 (zK (H HRO) (by omega)) kH.rise (by omega) (H HS)).mono ?_
   rintro e w6 ⟨k6,rfl,hnx6,kp⟩
   have HN:Hid (MaI ⟨ck,L,ct,F,cq,ci,X,cg⟩ next w (.slice a l.length cap) l tt cl (2 * (aR l' i o q).length + (if 0 < left - q then 1 else 0)) v2 v5 (I k6) w6) :=
    ⟨aR l' i o q,left - q,ts ++ [trE next o.id q o.ticks],k6,rfl,.inr (zS (zM (H HRO) kp) (by omega)),cU (H HEN) kp,hnx6,H HMI2,zc (H pL) kp (by omega),zo (H HT5) kp (by omega),zo (H ky) kp (by omega),(H qw).trans (kp.mono (H qw).size),by have:=kp.size; omega,Nat.le_refl _⟩
   clear hnx6 kp
   go_wp2_with fail
   go_roundg (2 * (aR l' i o q).length + (if 0 < left - q then 1 else 0))
   case measure=>rw [if_pos h0] at hme; omega
   case rel=>exact H HN
end Go.Proofs.YtnphbkgfjanmgaaGreatDoor
