/-
  A taker trades as far as it goes, by the model: proved by walking the function.
-/
import Derived.Test.YtnphbkgfjanmgaaGreatDoorDj31
set_option linter.unusedVariables false
set_option maxHeartbeats 6400000
set_option maxRecDepth 100000
namespace Go.Proofs.YtnphbkgfjanmgaaGreatDoor
open Go.RowKit
theorem eo {B b:Nat} {v:Value} {l:List Ev} (E:some b ≠ v.ownBlock):∀ (vs:List Value) (o:Nat) (W:World),ERow W B v l→ERow (W.setCells b o vs) B v l
 | [],_,_,h=>h
 | u :: us,o,W,h=>by rw [World.setCells]; exact eo E us (o + 1) _ (bd h E o u)
def MaI (c:Cm) (next:Int) (w:World) (v:Value) (l:List Od) (tt:Int) (cl:List Od × Int × List Ev) (m:Nat) (lv ev kv:Value) (wr:World):Prop :=
 ∃ (l':List Od) (left:Int) (ts:List Ev) (k:Int),kv = I k∧((lv = v∧l' = l) ∨ ORow wr (w.heap.size + 1 + 1) lv l')∧ERow wr (w.heap.size + 1 + 1) ev ts∧NexS l' ⟨next,c.s,tt,left,c.l,c.g⟩ k∧MI c next cl l' left ts ∧
  wr.rangeAt w.heap.size 0 [I next,I c.s,I tt,I left,I c.l,yl c.g]∧wr.there w.heap.size 0 6∧wr.there (w.heap.size + 1) 0 6∧yp w wr∧w.heap.size + 1 + 1 ≤ wr.heap.size∧2 * l'.length + (if 0 < left then 1 else 0) ≤ m
theorem ma_end {c:Cm} {next tt:Int} {cl:List Od × Int × List Ev} {l':List Od} {left:Int} {ts:List Ev} (htt:tt = tkS c.p) (hs:c.s = 1 ∨ c.s = 2) (hp:prcB c = true) (hm:MI c next cl l' left ts) (h:left = 0 ∨ aR l' (othS c.s) = none ∨ ∃ o,aR l' (othS c.s) = some o∧bL c.s tt o = false):cl = (l',left,ts):=by
 subst htt
 rcases h with h | h | ⟨o,h,Y⟩
 ·exact mi_done hm (by omega)
 ·exact mi_none hm h
 ·rw [cross_meet hp] at Y; exact mi_stop hm h Y
def MatEnd (w:World) (v:Value) (l:List Od) (w':World) (v' ve:Value) (cl:List Od × Int × List Ev):Prop :=
 ((v' = v∧cl.1 = l) ∨ ORow w' w.heap.size v' cl.1)∧ERow w' w.heap.size ve cl.2.2∧yp w w'
theorem eRow_base {W:World} {B B':Nat} {v:Value} {l:List Ev} (h:ERow W B v l) (hB:B' ≤ B):ERow W B' v l :=
 ⟨h.1,by
  rcases h.2 with h | ⟨g',c',xF,N,Y,h3⟩
  ·exact .inl h
  ·exact .inr ⟨g',c',xF,N,yO hB Y,h3⟩⟩
theorem l04Match_any (v:Value) (l:List Od) (c:Cm) (next:Int) (w:World) (hr:RdR Od.vs 6 w v l) (hg:GoodL l) (hs:c.s = 1 ∨ c.s = 2) (hp:prcB c = true) (pZ:0 ≤ c.q) (oK:c.q ≤ 1000000) :
  Calls Tryz.prog 183 #[v,.agg #[I next,I c.s,I (tkS c.p),I c.q,I c.l,yl c.g]] w fun e w'=>∃ v' ve,e = .returned (.tuple #[v',.agg #[I next,I c.s,I (tkS c.p),I (matL c next 21 l c.q []).2.1,I c.l,yl c.g],ve])∧MatEnd w v l w' v' ve (matL c next 21 l c.q []):=by
 obtain ⟨i0,vA,uH,uI,uW⟩:=info_parts infoEv
 have HMI0:=H (mi_start (c:=c) (id:=next) hg pZ oK)
 have HR:=H hr
 have qK:=H hg
 have HS:=H hs
 have HP:=H hp
 generalize htt:tkS c.p = tt
 have HTT:=H htt.symm
 generalize matL c next 21 l c.q [] = cl at HMI0 ⊢
 obtain ⟨a,cap,rfl,xA,hc⟩:=hr
 obtain ⟨ck,A,ct,F,cq,ci,O,cg⟩:=c
 simp only at hs pZ oK htt HTT HS ⊢
 clear hc hg hp xA htt
 have xK:=zj w (Obj.cells #[I next,I A,I tt,I cq,I F,yl cg] 78)
 have uf:((w.alloc (Obj.cells #[I next,I A,I tt,I cq,I F,yl cg] 78)).alloc (Obj.cells #[I 0,I 0,I 0,I 0,I 0,yl ⟨#[]⟩] 78)).heap.size = w.heap.size + 1 + 1:=by rw [zj,xK]
 have jJ:(((w.alloc (Obj.cells #[I next,I A,I tt,I cq,I F,yl cg] 78)).alloc (Obj.cells #[I 0,I 0,I 0,I 0,I 0,yl ⟨#[]⟩] 78)).alloc (Obj.cells #[] 52)).heap.size = w.heap.size + 1 + 1 + 1:=by rw [zj,uf]
 have r1:=zn w [I next,I A,I tt,I cq,I F,yl cg] 78
 have t1:=zY w [I next,I A,I tt,I cq,I F,yl cg] 78
 have t2:=zY (w.alloc (Obj.cells #[I next,I A,I tt,I cq,I F,yl cg] 78)) [I 0,I 0,I 0,I 0,I 0,yl ⟨#[]⟩] 78
 rw [xK] at t2
 have e3:=World.ownsRow_made (base:=w.heap.size + 1 + 1) (e:=52) (size:=14) ((w.alloc (Obj.cells #[I next,I A,I tt,I cq,I F,yl cg] 78)).alloc (Obj.cells #[I 0,I 0,I 0,I 0,I 0,yl ⟨#[]⟩] 78)) #[] 0 (by omega) (by decide) rfl
 rw [uf] at e3
 have b1:=fw w (Obj.cells #[I next,I A,I tt,I cq,I F,yl cg] 78)
 have b2:Below (w.heap.size + 1) (w.alloc (Obj.cells #[I next,I A,I tt,I cq,I F,yl cg] 78)) ((w.alloc (Obj.cells #[I next,I A,I tt,I cq,I F,yl cg] 78)).alloc (Obj.cells #[I 0,I 0,I 0,I 0,I 0,yl ⟨#[]⟩] 78)):=(Below.refl _ _).alloc (by omega) _
 have b3:Below (w.heap.size + 1 + 1) ((w.alloc (Obj.cells #[I next,I A,I tt,I cq,I F,yl cg] 78)).alloc (Obj.cells #[I 0,I 0,I 0,I 0,I 0,yl ⟨#[]⟩] 78)) (((w.alloc (Obj.cells #[I next,I A,I tt,I cq,I F,yl cg] 78)).alloc (Obj.cells #[I 0,I 0,I 0,I 0,I 0,yl ⟨#[]⟩] 78)).alloc (Obj.cells #[] 52)):=(Below.refl _ _).alloc (by omega) _
 have b23:=b2.trans (b3.mono (by omega))
 have HX:Hid (_∧_∧_∧_):=⟨zc r1 b23 (by omega),zo t1 b23 (by omega),zo t2 b3 (by omega),e3⟩
 have xN:=H (b1.trans (b23.mono (by omega)))
 have vU:=H jJ
 clear xK uf jJ r1 t1 t2 b1 b2 b3 b23 e3
 go_enter Tryz.func183,Tryz.ntmps183
 refine fD fun zb xU=>?_
 go_wp2_with fail
 refine U xU _ _ ?_
 clear xU
 refine fD fun zb xU=>?_
 go_wp2_with fail
 refine U xU _ _ ?_
 clear xU
 generalize (((w.alloc (Obj.cells #[I next,I A,I tt,I cq,I F,yl cg] 78)).alloc (Obj.cells #[I 0,I 0,I 0,I 0,I 0,yl ⟨#[]⟩] 78)).alloc (Obj.cells #[] 52)) = xo at HX xN vU ⊢
 have HX:Hid (xo.rangeAt w.heap.size 0 [I next,I A,I tt,I cq,I F,yl cg]∧xo.there w.heap.size 0 6∧xo.there (w.heap.size + 1) 0 6∧xo.ownsRow (w.heap.size + 1 + 1) 52 14 (.slice (some (Q (w.heap.size + 1 + 1) 0)) 0 0) 0 []):=U HX
 obtain ⟨c0,c1,c2,c3,c4,c5⟩:=yD (U HX).1
 go_wp2_with fail
 refine (eX _ l ⟨next,A,tt,cq,F,cg⟩ xo (zh (U HR) (U xN) yb) (U qK).rise (by have:=(U qK).len; omega) (U HS)).mono ?_
 rintro e w2 ⟨k,rfl,qe,xL⟩
 have vZ:Hid (MaI ⟨ck,A,ct,F,cq,ci,O,cg⟩ next w (.slice a l.length cap) l tt cl (2 * l.length + 1) (.slice a l.length cap) (.slice (some (Q (w.heap.size + 1 + 1) 0)) 0 0) (I k) w2):=by
  have jJ:=U vU
  refine ⟨l,cq,[],k,rfl,.inl ⟨rfl,rfl⟩,?_,qe,U HMI0,zc (U HX).1 xL (by omega),zo (U HX).2.1 xL (by omega),zo (U HX).2.2.1 xL (by omega),(U xN).trans (xL.mono (U xN).size),by have:=xL.size; omega,by split <;> omega⟩
  exact cN (l:=[]) (U HX).2.2.2 xL
 clear qe xL c0 c1 c2 c3 c4 c5 HX xN vU HMI0
 go_wp2_with fail
 go_loopg [0,7,8] (2 * l.length + 1) (fun m lv ev kv wr=>MaI ⟨ck,A,ct,F,cq,ci,O,cg⟩ next w (.slice a l.length cap) l tt cl m lv ev kv wr)
 case atStart=>exact U vZ
 case round =>
  obtain ⟨l',left,ts,kx,rfl,hlv,her,qe,pW,hrt,ht0,ht1,kz,kO,hme⟩:=hrel
  have ar:=H her
  have HMI:=H pW
  have oC:=H hrt
  have HT0:=H ht0
  have jd:=H ht1
  have ub:=H kz
  have HLV:=H hlv
  have uN:Hid (RdR Od.vs 6 wr u0 l'):=by
   rcases hlv with ⟨rfl,rfl⟩ | h
   ·exact zh (U HR) kz yb
   ·exact zK h (by have:=pW.good.len; omega)
  have xA:=pW.good.len
  have jH:=pW.l0
  have hl1:=pW.l1
  have hfew:=pW.few
  clear her hrt ht0 ht1 kz vZ hlv
  rcases qe with ⟨rfl,vk⟩ | ⟨i,o,rfl,hi,qQ,oq,kC,py⟩
  ·have HF:=H (ma_end (U HTT) (U HS) (U HP) pW vk)
   clear vk pW
   go_wp2_with fail
   obtain ⟨V0,pt⟩:∃ hj:World,hj = { wr with drawn:=wr.drawn + 1 }:=⟨_,rfl⟩
   have HLV:Hid ((u0 = .slice a l.length cap∧l' = l) ∨ ORow V0 (w.heap.size + 1 + 1) u0 l'):=by rw [pt]; exact U HLV
   have ar:Hid (ERow V0 (w.heap.size + 1 + 1) u7 ts):=by rw [pt]; exact U ar
   have oC:Hid (V0.rangeAt w.heap.size 0 [I next,I A,I tt,I left,I F,yl cg]):=by rw [pt]; exact U oC
   have jd:Hid (V0.there (w.heap.size + 1) 0 6):=by rw [pt]; exact U jd
   have ub:Hid (yp w V0):=by rw [pt]; exact (U ub).trans ⟨rfl,rfl,rfl,Nat.le_refl _,fun _ _=>rfl⟩
   obtain ⟨V1,jD⟩:∃ hj:World,hj = V0.setCells (w.heap.size + 1) 0 [I next,I A,I tt,I left,I F,yl cg]:=⟨_,rfl⟩
   have vz:Hid (V1.rangeAt (w.heap.size + 1) 0 [I next,I A,I tt,I left,I F,yl cg]):=by rw [jD]; exact yY V0 _ 0 _ (fun j V=>U jd j V)
   have xp:Hid (MatEnd w (.slice a l.length cap) l V1 u0 u7 cl):=by
    rw [U HF]
    refine ⟨?_,?_,?_⟩
    ·rcases U HLV with h | h
     ·exact .inl h
     ·exact .inr (by rw [jD]; exact zS (dH (by omega) _ _ _ h) (by omega))
    ·rw [jD]
     refine eRow_base (eo (fun e=>?_) _ _ _ (U ar)) (show w.heap.size ≤ w.heap.size + 1 + 1 by omega)
     have:=((U ar).lt _ e.symm).1
     omega
    ·rw [jD]; exact zi _ (by omega) _ _ _ (U ub)
   have HFL:Hid (cl.2.1 = left):=by show _ = _; rw [U HF]
   have HV0:=H pt
   have HV1:=H jD
   clear pt jD HLV ar ub
   refine zm (R8A (fun f=>{ tmps:=#[u0,.agg #[I next,I A,I tt,I cq,I F,yl cg],M,J w.heap.size 0,f 3,J (w.heap.size + 1) 0,f 5,u7,I (-1),u9,.slice (some (Q (w.heap.size + 1 + 1) 0)) 0 0,.slice a l.length cap,.agg #[I next,I A,I tt,I cq,I F,yl cg],I k,I (-1),.bool false,u16,u17,u18,u19,u20,u21,u22,u23,u24,u25,u26,u27,u28,u29,u30,u31,f 0,f 1,f 2],defers:=[] }) u0 (.agg #[I next,I A,I tt,I left,I F,yl cg]) u7 V0 V1 V1) (by kernel_rfl) ?_ ?_ ?_
   ·exact ⟨fun j=>if j = 3 then .slice none 0 0 else if j = 5 then .slice none 0 0 else M,rfl,⟨by simp,by simp,by simp,by simp,by simp,fun _=>(U HV0).symm,by simp,by simp⟩⟩
   ·rintro x cs V' ⟨f,rfl,R⟩ hx xO
    have xq:=bT xO hx (by kernel_rfl)
    have e3:=R.f3 (xq 3 (by simp))
    have e5:=R.f5 (xq 5 (by simp))
    have eW:=R.s2 (xq 4 (by simp)) (xq 5 (by simp))
    subst eW
    simp only [e3,e5]
    clear R xq e3 e5 xO hx
    obtain ⟨d0,d1,d2,d3,d4,d5⟩:=yD (U vz)
    go_wp2_with fail
    try simp (config:={ zetaDelta:=true }) only [Exit.noGoto_ret]
    try simp only [Exit.inBlock,Exit.then]
    refine bodyPost_ret (by simp [results,Tryz.results183,go_sem,d0,d1,d2,d3,d4,d5]; try rfl) rfl ?_
    exact ⟨u0,u7,by rw [U HFL],U xp⟩
   ·rintro x cs V' i' o' ⟨f,rfl,R⟩ X hx Z xr D
    have n5:i' < 5→x[5]? = some false:=fun xJ=>by
     rcases br hx (show 5 < 6 by omega) with h | h
     ·exact h
     ·have:=X 5 _ rfl h ⟨i',.phase⟩ (by rcases (by omega:i' = 0 ∨ i' = 1 ∨ i' = 2 ∨ i' = 3 ∨ i' = 4) with rfl | rfl | rfl | rfl | rfl <;> simp) rfl
      rw [xr] at this; cases this
    have n4:i' = 0 ∨ i' = 1 ∨ i' = 3→x[4]? = some false:=fun xJ=>by
     rcases br hx (show 4 < 6 by omega) with h | h
     ·exact h
     ·have:=X 4 _ rfl h ⟨i',.phase⟩ (by rcases xJ with rfl | rfl | rfl <;> simp) rfl
      rw [xr] at this; cases this
    have xu:=H R
    clear X
    match i',Z with
    | 0,Z =>
     obtain rfl:=yc Z
     clear D R
     rw [if_pos (by rfl)];unfold Oper.wp;go_simp
     exact ⟨upd f 0 u0,by simp [upd],r8_val (U xu) 0 _ (by omega) (fun _=>rfl) (by omega) (by omega) (by omega)⟩
    | 1,Z =>
     obtain rfl:=yc Z
     have eV:=R.s0 (n4 (by omega))
     subst eV
     obtain ⟨c0,c1,c2,c3,c4,c5⟩:=yD (U oC)
     clear D R
     rw [if_pos (by rfl)];unfold Oper.wp;go_simp
     exact ⟨upd f 1 (.agg #[I next,I A,I tt,I left,I F,yl cg]),by simp [upd],r8_val (U xu) 1 _ (by omega) (by omega) (fun _=>rfl) (by omega) (by omega)⟩
    | 2,Z =>
     obtain rfl:=yc Z
     clear D R
     rw [if_pos (by rfl)];unfold Oper.wp;go_simp
     exact ⟨upd f 2 u7,by simp [upd],r8_val (U xu) 2 _ (by omega) (by omega) (by omega) (fun _=>rfl) (by omega)⟩
    | 3,Z =>
     obtain rfl:=yc Z
     have g0:=R.f0 (yf D 0 rfl)
     clear D R
     rw [if_pos (by rfl)];unfold Oper.wp;go_simp
     exact ⟨upd f 3 u0,by simp [upd,g0],r8_val (U xu) 3 _ (by omega) (by omega) (by omega) (by omega) (fun _=>rfl)⟩
    | 4,Z =>
     obtain rfl:=yc Z
     have g1:=R.f1 (yf D 1 rfl)
     have eV:=R.s0 xr
     subst eV
     have xZ:=U jd
     obtain ⟨y0,z0,q0⟩:=zl xZ (j:=0) (by omega)
     obtain ⟨y1,z1,q1⟩:=zl xZ (j:=1) (by omega)
     obtain ⟨y2,z2,q2⟩:=zl xZ (j:=2) (by omega)
     obtain ⟨y3,z3,q3⟩:=zl xZ (j:=3) (by omega)
     obtain ⟨y4,z4,q4⟩:=zl xZ (j:=4) (by omega)
     obtain ⟨y5,z5,q5⟩:=zl xZ (j:=5) (by omega)
     have n5':=n5 (by omega)
     clear D R xZ
     rw [if_pos (by rfl)];unfold Oper.wp;go_simp
     have HR4:=r8_4 (U xu) xr n5'
     conv at HR4=>arg 9; rw [U HV1]
     exact ⟨f,by simp [g1],HR4⟩
    | 5,Z =>
     obtain rfl:=yc Z
     have g2:=R.f2 (yf D 2 rfl)
     have k4:x[4]? = some true:=D ⟨4,.chain⟩ (by simp) rfl
     have eV:=R.s1 k4 xr
     subst eV
     have vD:=r8_5 (U xu) k4 xr
     clear D R
     rw [if_pos (by rfl)];unfold Oper.wp;go_simp
     exact ⟨upd f 5 u7,by simp [upd,g2],vD⟩
    | i' + 6,Z=>simp at Z
  ·have h0:0 < left:=by simp only at py; omega
   obtain ⟨k2,_,pU,hmi2,hme2⟩:=mi_step pW h0 oq (by rw [← cross_meet (U HP),← U HTT]; exact kC)
   obtain rfl:i = k2:=rise_id pW.good.rise qQ pU rfl
   have Z:=pW.good.left o (yP qQ)
   have HMI2:=H hmi2
   have HIO:=H qQ
   clear hmi2 pW oq kC py pU qQ
   have hii:(0:Int) ≤ i:=by omega
   refine fD fun zb xU=>?_
   go_wp2_with fail
   refine U xU _ _ ?_
   clear xU
   refine fD fun zb xU=>?_
   refine wp_block ?_
   refine fD fun K2 oP=>?_
   have hsf:=sfl
   go_wp2_with fail
   refine U oP _ _ ?_
   clear oP
   have oT:=fw wr (Obj.cells #[I 0,I 0,I 0,I 0,I 0,I 0,I 0,yk 0,yl ⟨#[]⟩,I 0,I 0,I 0,I 0,I 0] 52)
   have hsY:=zj wr (Obj.cells #[I 0,I 0,I 0,I 0,I 0,I 0,I 0,yk 0,yl ⟨#[]⟩,I 0,I 0,I 0,I 0,I 0] 52)
   have oC:=H (zc (U oC) oT (by omega))
   have HT0:=H (zo (U HT0) oT (by omega))
   have jd:=H (zo (U jd) oT (by omega))
   have HER2:=H (cN (U ar) oT)
   have HEB:Hid (∀ g,u7.ownBlock = some g→w.heap.size + 1 + 1 ≤ g∧g < wr.heap.size):=fun g hg=>(U ar).lt g hg
   have uN:=H (zh (U uN) oT yb)
   have qF:=H (zY wr [I 0,I 0,I 0,I 0,I 0,I 0,I 0,yk 0,yl ⟨#[]⟩,I 0,I 0,I 0,I 0,I 0] 52)
   have ub:=H (fC (U ub) oT)
   clear oT ar HLV
   have qF:Hid (World.there (wr.alloc (Obj.cells #[I 0,I 0,I 0,I 0,I 0,I 0,I 0,yk 0,yl ⟨#[]⟩,I 0,I 0,I 0,I 0,I 0] 52)) wr.heap.size 0 14):=U qF
   generalize wr.alloc (Obj.cells #[I 0,I 0,I 0,I 0,I 0,I 0,I 0,yk 0,yl ⟨#[]⟩,I 0,I 0,I 0,I 0,I 0] 52) = h2 at oC HT0 jd HER2 uN qF ub hsY ⊢
   generalize wr.heap.size = hb at HEB qF hsY kO ⊢
   obtain ⟨c0,c1,c2,c3,c4,c5⟩:=yD (U oC)
   refine fD fun K2 oP=>?_
   go_wp2_with fail
   refine (l04Hit_any _ l' ⟨next,A,tt,left,F,cg⟩ o i h2 (U uN) (by omega) (U HIO) jH hl1 (by omega) Z.2).mono ?_
   rintro e w2 ⟨v2,rfl,kE,xL⟩
   simp only [Od.vs,Ev.vs,trE,zCm]
   simp only at kE
   have hq0':0 ≤ min left o.left:=by omega
   generalize min left o.left = q at kE HMI2 hme2 hq0' ⊢
   have jA:=H kE
   have xw:=H xL
   have hTa:=zo (U HT0) xL (by omega)
   have ps:=zo (U qF) xL (by omega)
   have az:=H hTa
   have HTB:=H ps
   have HT1':=H (zo (U jd) xL (by omega))
   have HER3:=H (cN (U HER2) xL)
   have HBW2:=H (fC (U ub) xL)
   have uf:=xL.size
   obtain ⟨ya0,za0,qa0⟩:=zl hTa (j:=0) (by omega)
   obtain ⟨ya1,za1,qa1⟩:=zl hTa (j:=1) (by omega)
   obtain ⟨ya2,za2,qa2⟩:=zl hTa (j:=2) (by omega)
   obtain ⟨ya3,za3,qa3⟩:=zl hTa (j:=3) (by omega)
   obtain ⟨ya4,za4,qa4⟩:=zl hTa (j:=4) (by omega)
   obtain ⟨ya5,za5,qa5⟩:=zl hTa (j:=5) (by omega)
   obtain ⟨yb0,zb0,qb0⟩:=zl ps (j:=0) (by omega)
   obtain ⟨yb1,zb1,qb1⟩:=zl ps (j:=1) (by omega)
   obtain ⟨yb2,zb2,qb2⟩:=zl ps (j:=2) (by omega)
   obtain ⟨yb3,zb3,qb3⟩:=zl ps (j:=3) (by omega)
   obtain ⟨yb4,zb4,qb4⟩:=zl ps (j:=4) (by omega)
   obtain ⟨yb5,zb5,qb5⟩:=zl ps (j:=5) (by omega)
   obtain ⟨yb6,zb6,qb6⟩:=zl ps (j:=6) (by omega)
   obtain ⟨yb7,zb7,qb7⟩:=zl ps (j:=7) (by omega)
   obtain ⟨yb8,zb8,qb8⟩:=zl ps (j:=8) (by omega)
   obtain ⟨yb9,zb9,qb9⟩:=zl ps (j:=9) (by omega)
   obtain ⟨yb10,zb10,qb10⟩:=zl ps (j:=10) (by omega)
   obtain ⟨yb11,zb11,qb11⟩:=zl ps (j:=11) (by omega)
   obtain ⟨yb12,zb12,qb12⟩:=zl ps (j:=12) (by omega)
   obtain ⟨yb13,zb13,qb13⟩:=zl ps (j:=13) (by omega)
   have hES:hb ≠ w.heap.size:=by omega
   have hSE:w.heap.size ≠ hb:=by omega
   clear c0 c1 c2 c3 c4 c5 kE xL hTa ps HT0 qF jd HER2 ub uN oC
   go_wp2_with fail
   refine U oP _ _ ?_
   clear oP za0 qa0 za1 qa1 za2 qa2 za3 qa3 za4 qa4 za5 qa5 zb0 qb0 zb1 qb1 zb2 qb2 zb3 qb3 zb4 qb4 zb5 qb5 zb6 qb6 zb7 qb7 zb8 qb8 zb9 qb9 zb10 qb10 zb11 qb11 zb12 qb12 zb13 qb13
   have eW:((((((((((((((((((((w2.setCell (Q w.heap.size 0) (I next)).setCell (Q w.heap.size 1) (I A)).setCell (Q w.heap.size 2) (I tt)).setCell (Q w.heap.size 3) (I (left - q))).setCell (Q w.heap.size 4) (I F)).setCell (Q w.heap.size 5) (yl cg)).setCell (Q hb 0) (I 3)).setCell (Q hb 1) (I 0)).setCell (Q hb 2) (I 0)).setCell (Q hb 3) (I 0)).setCell (Q hb 4) (I 0)).setCell (Q hb 5) (I 0)).setCell (Q hb 6) (I 0)).setCell (Q hb 7) (yk 0)).setCell (Q hb 8) (yl ⟨#[]⟩)).setCell (Q hb 9) (I next)).setCell (Q hb 10) (I o.id)).setCell (Q hb 11) (I q)).setCell (Q hb 12) (I o.ticks)).setCell (Q hb 13) (I 0)) = (w2.setCells w.heap.size 0 [I next,I A,I tt,I (left - q),I F,yl cg]).setCells hb 0 [I 3,I 0,I 0,I 0,I 0,I 0,I 0,yk 0,yl ⟨#[]⟩,I next,I o.id,I q,I o.ticks,I 0]:=rfl
   rw [eW]
   clear eW
   obtain ⟨V1,jD⟩:∃ hj:World,hj = w2.setCells w.heap.size 0 [I next,I A,I tt,I (left - q),I F,yl cg]:=⟨_,rfl⟩
   rw [← jD]
   have vz:Hid (V1.rangeAt w.heap.size 0 [I next,I A,I tt,I (left - q),I F,yl cg]):=by rw [jD]; exact yY w2 _ 0 _ (fun j V=>U az j V)
   have HG1:Hid (V1.there w.heap.size 0 6):=by rw [jD]; exact xc (U az) _ _ _
   have ug:Hid (V1.there (w.heap.size + 1) 0 6):=by rw [jD]; exact xc (U HT1') _ _ _
   have vi:Hid (V1.there hb 0 14):=by rw [jD]; exact xc (U HTB) _ _ _
   have qW:Hid (ORow V1 h2.heap.size v2 (aN l' i o q)):=by rw [jD]; exact dH (by omega) _ _ _ (U jA)
   have HE1:Hid (ERow V1 (w.heap.size + 1 + 1) u7 ts):=by rw [jD]; exact eo (fun e=>by have:=(U HEB _ e.symm).1; omega) _ _ _ (U HER3)
   have ue:Hid (yp w V1):=by rw [jD]; exact zi _ yb _ _ _ (U HBW2)
   have xK:V1.heap.size = w2.heap.size:=by rw [jD,cW]
   clear jD
   obtain ⟨V2,og⟩:∃ hj:World,hj = V1.setCells hb 0 [I 3,I 0,I 0,I 0,I 0,I 0,I 0,yk 0,yl ⟨#[]⟩,I next,I o.id,I q,I o.ticks,I 0]:=⟨_,rfl⟩
   rw [← og]
   have vn:Hid (V2.rangeAt hb 0 [I 3,I 0,I 0,I 0,I 0,I 0,I 0,yk 0,yl ⟨#[]⟩,I next,I o.id,I q,I o.ticks,I 0]):=by rw [og]; exact yY V1 _ 0 _ (fun j V=>U vi j V)
   have vY:Hid (V2.rangeAt w.heap.size 0 [I next,I A,I tt,I (left - q),I F,yl cg]):=by rw [og]; exact eL (U vz) (by omega)
   have ut:Hid (V2.there w.heap.size 0 6):=by rw [og]; exact xc (U HG1) _ _ _
   have uC:Hid (V2.there (w.heap.size + 1) 0 6):=by rw [og]; exact xc (U ug) _ _ _
   have pF:Hid (ORow V2 h2.heap.size v2 (aN l' i o q)):=by rw [og]; exact dH (by omega) _ _ _ (U qW)
   have HE2:Hid (ERow V2 (w.heap.size + 1 + 1) u7 ts):=by rw [og]; exact eo (fun e=>by have:=(U HEB _ e.symm).2; omega) _ _ _ (U HE1)
   have xH:Hid (yp w V2):=by rw [og]; exact zi _ (by omega) _ _ _ (U ue)
   have hs4:h2.heap.size ≤ V2.heap.size:=by rw [og,cW,xK]; exact uf
   clear og vz HG1 ug vi qW HE1 ue xK jA xw az HTB HT1' HER3 HBW2
   obtain ⟨e0,e1,e2,e3,e4,e5,e6,e7,e8,e9,uO,uy,vQ,uQ⟩:=yG (U vn)
   have HE3:=H ((U HE2).alloc (Obj.cells #[I 3,I 0,I 0,I 0,I 0,I 0,I 0,yk 0,yl ⟨#[]⟩,I next,I o.id,I q,I o.ticks,I 0] 52))
   have hs5:V2.heap.size + 1 ≤ (V2.alloc (Obj.cells #[I 3,I 0,I 0,I 0,I 0,I 0,I 0,yk 0,yl ⟨#[]⟩,I next,I o.id,I q,I o.ticks,I 0] 52)).heap.size:=Nat.le_of_eq (zj _ _).symm
   have uh:=fw V2 (Obj.cells #[I 3,I 0,I 0,I 0,I 0,I 0,I 0,yk 0,yl ⟨#[]⟩,I next,I o.id,I q,I o.ticks,I 0] 52)
   have qO:Hid (∀ j u,[I 3,I 0,I 0,I 0,I 0,I 0,I 0,yk 0,yl ⟨#[]⟩,I next,I o.id,I q,I o.ticks,I 0][j]? = some u→(V2.alloc (Obj.cells #[I 3,I 0,I 0,I 0,I 0,I 0,I 0,yk 0,yl ⟨#[]⟩,I next,I o.id,I q,I o.ticks,I 0] 52)).cell? (((Q V2.heap.size 0):Addr).add j) = some u):=fun j u hu=>cellsQ V2 [I 3,I 0,I 0,I 0,I 0,I 0,I 0,yk 0,yl ⟨#[]⟩,I next,I o.id,I q,I o.ticks,I 0] 52 j u hu
   have vr:=H (zM (U pF) uh)
   have ax:=H (zc (U vY) uh (by omega))
   have qD:=H (zo (U ut) uh (by omega))
   have jz:=H (zo (U uC) uh (by omega))
   have uj:=H (fC (U xH) uh)
   have HEBv:Hid (∀ g,u7.ownBlock = some g→w.heap.size + 1 + 1 ≤ g):=fun g hg=>(U HEB g hg).1
   clear uh pF vY ut uC xH HEB
   go_wp2_with (at_builtin; go_must (refine wpList_append_own _ rfl _ _ 36 rfl (w.heap.size + 1 + 1) 52 i0 _ 14 120 Tryz.underlying36 vA uH uI uW rfl (by decide) u7 ts.length (ts.flatMap Ev.vs) rfl (U HE3) (Q V2.heap.size 0) 1 1 [I 3,I 0,I 0,I 0,I 0,I 0,I 0,yk 0,yl ⟨#[]⟩,I next,I o.id,I q,I o.ticks,I 0] rfl rfl (U qO) (by simp [Value.oneCell']) (by unfold maxLen; omega) (by omega) (by omega) ?_); intro v5 w5 hown5 ja _; have jl:=H hown5; have uC:=H ja; clear hown5 ja)
   have HRO:=H ((U vr).kept (U uC) (eM (U vr) (U HE3) (by decide)))
   have HNS:Hid (∀ b,b < w.heap.size + 1 + 1→some b ≠ u7.ownBlock):=fun b E e=>by have:=U HEBv b e.symm; omega
   have pI:=H (zx (U ax) (U uC) (by omega) (U HNS _ (by omega)))
   have HT5:=H (eA (U qD) (U uC) (by omega) (U HNS _ (by omega)))
   have kt:=H (eA (U jz) (U uC) (by omega) (U HNS _ (by omega)))
   have qA:=H ((U uj).grown (U uC) (U uj).size (fun k hk=>by have:=U HEBv k hk; omega))
   have hs6:=(U uC).size
   have HEN:Hid (ERow w5 (w.heap.size + 1 + 1) v5 (ts ++ [trE next o.id q o.ticks])):=by
    show w5.ownsRow _ _ _ _ (ts ++ [trE next o.id q o.ticks]).length _
    rw [yQ,List.flatMap_append]
    have:=U jl
    simpa [Ev.vs,trE,zCm] using this
   obtain ⟨x0,x1,x2,x3,x4,x5⟩:=yD (U pI)
   try simp only [Exit.inBlock,Exit.then]
   refine U xU _ _ ?_
   clear xU HE3 qO vr ax qD jz uj uC jl e0 e1 e2 e3 e4 e5 e6 e7 e8 e9 uO uy vQ uQ
   have kD:=(U HMI2).good
   have jh:=kD.len
   go_wp2_with fail
   refine (eX v2 (aN l' i o q) ⟨next,A,tt,left - q,F,cg⟩ w5 (zK (U HRO) (by omega)) kD.rise (by omega) (U HS)).mono ?_
   rintro e w6 ⟨k6,rfl,hnx6,om⟩
   have HN:Hid (MaI ⟨ck,A,ct,F,cq,ci,O,cg⟩ next w (.slice a l.length cap) l tt cl (2 * (aN l' i o q).length + (if 0 < left - q then 1 else 0)) v2 v5 (I k6) w6) :=
    ⟨aN l' i o q,left - q,ts ++ [trE next o.id q o.ticks],k6,rfl,.inr (zS (zM (U HRO) om) (by omega)),cN (U HEN) om,hnx6,U HMI2,zc (U pI) om (by omega),zo (U HT5) om (by omega),zo (U kt) om (by omega),(U qA).trans (om.mono (U qA).size),by have:=om.size; omega,Nat.le_refl _⟩
   clear hnx6 om
   go_wp2_with fail
   go_roundg (2 * (aN l' i o q).length + (if 0 < left - q then 1 else 0))
   case measure=>rw [if_pos h0] at hme; omega
   case rel=>exact U HN
end Go.Proofs.YtnphbkgfjanmgaaGreatDoor
