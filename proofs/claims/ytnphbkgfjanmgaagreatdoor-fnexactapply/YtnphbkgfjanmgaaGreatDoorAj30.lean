/-
  A taker trades as far as it goes, by the model: proved by walking the function.
-/
import Derived.Test.YtnphbkgfjanmgaaGreatDoorAj29
set_option linter.unusedVariables false
set_option maxHeartbeats 6400000
set_option maxRecDepth 100000
namespace Go.Proofs.YtnphbkgfjanmgaaGreatDoor
open Go.RowKit
theorem fh {B b:Nat} {v:Value} {l:List Ev} (Q:some b ≠ v.ownBlock):∀ (vs:List Value) (o:Nat) (W:World),ERow W B v l→ERow (W.setCells b o vs) B v l
 | [],_,_,h=>h
 | u :: us,o,W,h=>by rw [World.setCells]; exact fh Q us (o + 1) _ (bN h Q o u)
def MaI (c:Cm) (next:Int) (w:World) (v:Value) (l:List Od) (tt:Int) (xo:List Od × Int × List Ev) (m:Nat) (lv ev kv:Value) (wr:World):Prop :=
 ∃ (l':List Od) (left:Int) (ts:List Ev) (k:Int),kv = I k∧((lv = v∧l' = l) ∨ ORow wr (w.heap.size + 1 + 1) lv l')∧ERow wr (w.heap.size + 1 + 1) ev ts∧NexS l' ⟨next,c.s,tt,left,c.l,c.g⟩ k∧MI c next xo l' left ts ∧
  wr.rangeAt w.heap.size 0 [I next,I c.s,I tt,I left,I c.l,yl c.g]∧wr.there w.heap.size 0 6∧wr.there (w.heap.size + 1) 0 6∧yp w wr∧w.heap.size + 1 + 1 ≤ wr.heap.size∧2 * l'.length + (if 0 < left then 1 else 0) ≤ m
theorem ma_end {c:Cm} {next tt:Int} {xo:List Od × Int × List Ev} {l':List Od} {left:Int} {ts:List Ev} (htt:tt = tkS c.p) (hs:c.s = 1 ∨ c.s = 2) (hp:prcB c = true) (hm:MI c next xo l' left ts) (h:left = 0 ∨ bB l' (othS c.s) = none ∨ ∃ o,bB l' (othS c.s) = some o∧cG c.s tt o = false):xo = (l',left,ts):=by
 subst htt
 rcases h with h | h | ⟨o,h,Y⟩
 ·exact mi_done hm (by omega)
 ·exact mi_none hm h
 ·rw [cross_meet hp] at Y; exact mi_stop hm h Y
def MatEnd (w:World) (v:Value) (l:List Od) (w':World) (v' ve:Value) (xo:List Od × Int × List Ev):Prop :=
 ((v' = v∧xo.1 = l) ∨ ORow w' w.heap.size v' xo.1)∧ERow w' w.heap.size ve xo.2.2∧yp w w'
theorem eRow_base {W:World} {B B':Nat} {v:Value} {l:List Ev} (h:ERow W B v l) (hB:B' ≤ B):ERow W B' v l :=
 ⟨h.1,by
  rcases h.2 with h | ⟨g',c',xF,N,Y,h3⟩
  ·exact .inl h
  ·exact .inr ⟨g',c',xF,N,yO hB Y,h3⟩⟩
theorem l04Match_any (v:Value) (l:List Od) (c:Cm) (next:Int) (w:World) (hr:RdR Od.vs 6 w v l) (hg:GoodL l) (hs:c.s = 1 ∨ c.s = 2) (hp:prcB c = true) (aG:0 ≤ c.q) (pe:c.q ≤ 1000000) :
  Calls Tryz.prog 183 #[v,.agg #[I next,I c.s,I (tkS c.p),I c.q,I c.l,yl c.g]] w fun e w'=>∃ v' ve,e = .returned (.tuple #[v',.agg #[I next,I c.s,I (tkS c.p),I (matL c next 21 l c.q []).2.1,I c.l,yl c.g],ve])∧MatEnd w v l w' v' ve (matL c next 21 l c.q []):=by
 obtain ⟨i0,vC,uK,uL,uZ⟩:=info_parts infoEv
 have HMI0:=H (mi_start (c:=c) (id:=next) hg aG pe)
 have HR:=H hr
 have qR:=H hg
 have HS:=H hs
 have HP:=H hp
 generalize htt:tkS c.p = tt
 have HTT:=H htt.symm
 generalize matL c next 21 l c.q [] = xo at HMI0 ⊢
 obtain ⟨a,cap,rfl,xz,hc⟩:=hr
 obtain ⟨ck,L,ct,V,cq,ci,O,cg⟩:=c
 simp only at hs aG pe htt HTT HS ⊢
 clear hc hg hp xz htt
 have xL:=zj w (Obj.cells #[I next,I L,I tt,I cq,I V,yl cg] 78)
 have ug:((w.alloc (Obj.cells #[I next,I L,I tt,I cq,I V,yl cg] 78)).alloc (Obj.cells #[I 0,I 0,I 0,I 0,I 0,yl ⟨#[]⟩] 78)).heap.size = w.heap.size + 1 + 1:=by rw [zj,xL]
 have jU:(((w.alloc (Obj.cells #[I next,I L,I tt,I cq,I V,yl cg] 78)).alloc (Obj.cells #[I 0,I 0,I 0,I 0,I 0,yl ⟨#[]⟩] 78)).alloc (Obj.cells #[] 52)).heap.size = w.heap.size + 1 + 1 + 1:=by rw [zj,ug]
 have r1:=zo w [I next,I L,I tt,I cq,I V,yl cg] 78
 have t1:=cj w [I next,I L,I tt,I cq,I V,yl cg] 78
 have t2:=cj (w.alloc (Obj.cells #[I next,I L,I tt,I cq,I V,yl cg] 78)) [I 0,I 0,I 0,I 0,I 0,yl ⟨#[]⟩] 78
 rw [xL] at t2
 have e3:=World.ownsRow_made (base:=w.heap.size + 1 + 1) (e:=52) (size:=14) ((w.alloc (Obj.cells #[I next,I L,I tt,I cq,I V,yl cg] 78)).alloc (Obj.cells #[I 0,I 0,I 0,I 0,I 0,yl ⟨#[]⟩] 78)) #[] 0 (by omega) (by decide) rfl
 rw [ug] at e3
 have b1:=gp w (Obj.cells #[I next,I L,I tt,I cq,I V,yl cg] 78)
 have b2:Below (w.heap.size + 1) (w.alloc (Obj.cells #[I next,I L,I tt,I cq,I V,yl cg] 78)) ((w.alloc (Obj.cells #[I next,I L,I tt,I cq,I V,yl cg] 78)).alloc (Obj.cells #[I 0,I 0,I 0,I 0,I 0,yl ⟨#[]⟩] 78)):=(Below.refl _ _).alloc (by omega) _
 have b3:Below (w.heap.size + 1 + 1) ((w.alloc (Obj.cells #[I next,I L,I tt,I cq,I V,yl cg] 78)).alloc (Obj.cells #[I 0,I 0,I 0,I 0,I 0,yl ⟨#[]⟩] 78)) (((w.alloc (Obj.cells #[I next,I L,I tt,I cq,I V,yl cg] 78)).alloc (Obj.cells #[I 0,I 0,I 0,I 0,I 0,yl ⟨#[]⟩] 78)).alloc (Obj.cells #[] 52)):=(Below.refl _ _).alloc (by omega) _
 have b23:=b2.trans (b3.mono (by omega))
 have HX:Hid (_∧_∧_∧_):=⟨zc r1 b23 (by omega),zm t1 b23 (by omega),zm t2 b3 (by omega),e3⟩
 have xN:=H (b1.trans (b23.mono (by omega)))
 have vZ:=H jU
 clear xL ug jU r1 t1 t2 b1 b2 b3 b23 e3
 go_enter Tryz.func183,Tryz.ntmps183
 refine gv fun hR xU=>?_
 go_wp2_with fail
 refine U xU _ _ ?_
 clear xU
 refine gv fun hR xU=>?_
 go_wp2_with fail
 refine U xU _ _ ?_
 clear xU
 generalize (((w.alloc (Obj.cells #[I next,I L,I tt,I cq,I V,yl cg] 78)).alloc (Obj.cells #[I 0,I 0,I 0,I 0,I 0,yl ⟨#[]⟩] 78)).alloc (Obj.cells #[] 52)) = hj at HX xN vZ ⊢
 have HX:Hid (hj.rangeAt w.heap.size 0 [I next,I L,I tt,I cq,I V,yl cg]∧hj.there w.heap.size 0 6∧hj.there (w.heap.size + 1) 0 6∧hj.ownsRow (w.heap.size + 1 + 1) 52 14 (.slice (some (D (w.heap.size + 1 + 1) 0)) 0 0) 0 []):=U HX
 obtain ⟨c0,c1,c2,c3,c4,c5⟩:=yD (U HX).1
 go_wp2_with fail
 refine (fV _ l ⟨next,L,tt,cq,V,cg⟩ hj (zi (U HR) (U xN) yb) (U qR).rise (by have:=(U qR).len; omega) (U HS)).mono ?_
 rintro e w2 ⟨k,rfl,ql,xK⟩
 have qg:Hid (MaI ⟨ck,L,ct,V,cq,ci,O,cg⟩ next w (.slice a l.length cap) l tt xo (2 * l.length + 1) (.slice a l.length cap) (.slice (some (D (w.heap.size + 1 + 1) 0)) 0 0) (I k) w2):=by
  have jU:=U vZ
  refine ⟨l,cq,[],k,rfl,.inl ⟨rfl,rfl⟩,?_,ql,U HMI0,zc (U HX).1 xK (by omega),zm (U HX).2.1 xK (by omega),zm (U HX).2.2.1 xK (by omega),(U xN).trans (xK.mono (U xN).size),by have:=xK.size; omega,by split <;> omega⟩
  exact dJ (l:=[]) (U HX).2.2.2 xK
 clear ql xK c0 c1 c2 c3 c4 c5 HX xN vZ HMI0
 go_wp2_with fail
 go_loopg [0,7,8] (2 * l.length + 1) (fun m lv ev kv wr=>MaI ⟨ck,L,ct,V,cq,ci,O,cg⟩ next w (.slice a l.length cap) l tt xo m lv ev kv wr)
 case atStart=>exact U qg
 case round =>
  obtain ⟨l',left,ts,kx,rfl,hlv,jk,ql,aC,hrt,ht0,ht1,kr,kB,hme⟩:=hrel
  have kh:=H jk
  have HMI:=H aC
  have oS:=H hrt
  have HT0:=H ht0
  have jn:=H ht1
  have uc:=H kr
  have HLV:=H hlv
  have uQ:Hid (RdR Od.vs 6 wr u0 l'):=by
   rcases hlv with ⟨rfl,rfl⟩ | h
   ·exact zi (U HR) kr yb
   ·exact zI h (by have:=aC.good.len; omega)
  have xz:=aC.good.len
  have jS:=aC.l0
  have hl1:=aC.l1
  have hfew:=aC.few
  clear jk hrt ht0 ht1 kr qg hlv
  rcases ql with ⟨rfl,vp⟩ | ⟨i,o,rfl,hi,ja,oH,kT,pQ⟩
  ·have HF:=H (ma_end (U HTT) (U HS) (U HP) aC vp)
   clear vp aC
   go_wp2_with fail
   obtain ⟨V0,pM⟩:∃ cl:World,cl = { wr with drawn:=wr.drawn + 1 }:=⟨_,rfl⟩
   have HLV:Hid ((u0 = .slice a l.length cap∧l' = l) ∨ ORow V0 (w.heap.size + 1 + 1) u0 l'):=by rw [pM]; exact U HLV
   have kh:Hid (ERow V0 (w.heap.size + 1 + 1) u7 ts):=by rw [pM]; exact U kh
   have oS:Hid (V0.rangeAt w.heap.size 0 [I next,I L,I tt,I left,I V,yl cg]):=by rw [pM]; exact U oS
   have jn:Hid (V0.there (w.heap.size + 1) 0 6):=by rw [pM]; exact U jn
   have uc:Hid (yp w V0):=by rw [pM]; exact (U uc).trans ⟨rfl,rfl,rfl,Nat.le_refl _,fun _ _=>rfl⟩
   obtain ⟨V1,jN⟩:∃ cl:World,cl = V0.setCells (w.heap.size + 1) 0 [I next,I L,I tt,I left,I V,yl cg]:=⟨_,rfl⟩
   have qT:Hid (V1.rangeAt (w.heap.size + 1) 0 [I next,I L,I tt,I left,I V,yl cg]):=by rw [jN]; exact yY V0 _ 0 _ (fun j X=>U jn j X)
   have xp:Hid (MatEnd w (.slice a l.length cap) l V1 u0 u7 xo):=by
    rw [U HF]
    refine ⟨?_,?_,?_⟩
    ·rcases U HLV with h | h
     ·exact .inl h
     ·exact .inr (by rw [jN]; exact zU (et (by omega) _ _ _ h) (by omega))
    ·rw [jN]
     refine eRow_base (fh (fun e=>?_) _ _ _ (U kh)) (show w.heap.size ≤ w.heap.size + 1 + 1 by omega)
     have:=((U kh).lt _ e.symm).1
     omega
    ·rw [jN]; exact zh _ (by omega) _ _ _ (U uc)
   have HFL:Hid (xo.2.1 = left):=by show _ = _; rw [U HF]
   have HV0:=H pM
   have HV1:=H jN
   clear pM jN HLV kh uc
   refine zn (R8A (fun f=>{ tmps:=#[u0,.agg #[I next,I L,I tt,I cq,I V,yl cg],M,J w.heap.size 0,f 3,J (w.heap.size + 1) 0,f 5,u7,I (-1),u9,.slice (some (D (w.heap.size + 1 + 1) 0)) 0 0,.slice a l.length cap,.agg #[I next,I L,I tt,I cq,I V,yl cg],I k,I (-1),.bool false,u16,u17,u18,u19,u20,u21,u22,u23,u24,u25,u26,u27,u28,u29,u30,u31,f 0,f 1,f 2],defers:=[] }) u0 (.agg #[I next,I L,I tt,I left,I V,yl cg]) u7 V0 V1 V1) (by kernel_rfl) ?_ ?_ ?_
   ·exact ⟨fun j=>if j = 3 then .slice none 0 0 else if j = 5 then .slice none 0 0 else M,rfl,⟨by simp,by simp,by simp,by simp,by simp,fun _=>(U HV0).symm,by simp,by simp⟩⟩
   ·rintro x gs V' ⟨f,rfl,K⟩ hx xO
    have xq:=cP xO hx (by kernel_rfl)
    have e3:=K.f3 (xq 3 (by simp))
    have e5:=K.f5 (xq 5 (by simp))
    have eW:=K.s2 (xq 4 (by simp)) (xq 5 (by simp))
    subst eW
    simp only [e3,e5]
    clear K xq e3 e5 xO hx
    obtain ⟨d0,d1,d2,d3,d4,d5⟩:=yD (U qT)
    go_wp2_with fail
    try simp (config:={ zetaDelta:=true }) only [Exit.noGoto_ret]
    try simp only [Exit.inBlock,Exit.then]
    refine bodyPost_ret (by simp [results,Tryz.results183,go_sem,d0,d1,d2,d3,d4,d5]; try rfl) rfl ?_
    exact ⟨u0,u7,by rw [U HFL],U xp⟩
   ·rintro x gs V' i' o' ⟨f,rfl,K⟩ F hx Z xt E
    have n5:i' < 5→x[5]? = some false:=fun xI=>by
     rcases bS hx (show 5 < 6 by omega) with h | h
     ·exact h
     ·have:=F 5 _ rfl h ⟨i',.phase⟩ (by rcases (by omega:i' = 0 ∨ i' = 1 ∨ i' = 2 ∨ i' = 3 ∨ i' = 4) with rfl | rfl | rfl | rfl | rfl <;> simp) rfl
      rw [xt] at this; cases this
    have n4:i' = 0 ∨ i' = 1 ∨ i' = 3→x[4]? = some false:=fun xI=>by
     rcases bS hx (show 4 < 6 by omega) with h | h
     ·exact h
     ·have:=F 4 _ rfl h ⟨i',.phase⟩ (by rcases xI with rfl | rfl | rfl <;> simp) rfl
      rw [xt] at this; cases this
    have xu:=H K
    clear F
    match i',Z with
    | 0,Z =>
     obtain rfl:=yc Z
     clear E K
     rw [if_pos (by rfl)];unfold Oper.wp;go_simp
     exact ⟨upd f 0 u0,by simp [upd],r8_val (U xu) 0 _ (by omega) (fun _=>rfl) (by omega) (by omega) (by omega)⟩
    | 1,Z =>
     obtain rfl:=yc Z
     have eV:=K.s0 (n4 (by omega))
     subst eV
     obtain ⟨c0,c1,c2,c3,c4,c5⟩:=yD (U oS)
     clear E K
     rw [if_pos (by rfl)];unfold Oper.wp;go_simp
     exact ⟨upd f 1 (.agg #[I next,I L,I tt,I left,I V,yl cg]),by simp [upd],r8_val (U xu) 1 _ (by omega) (by omega) (fun _=>rfl) (by omega) (by omega)⟩
    | 2,Z =>
     obtain rfl:=yc Z
     clear E K
     rw [if_pos (by rfl)];unfold Oper.wp;go_simp
     exact ⟨upd f 2 u7,by simp [upd],r8_val (U xu) 2 _ (by omega) (by omega) (by omega) (fun _=>rfl) (by omega)⟩
    | 3,Z =>
     obtain rfl:=yc Z
     have g0:=K.f0 (yf E 0 rfl)
     clear E K
     rw [if_pos (by rfl)];unfold Oper.wp;go_simp
     exact ⟨upd f 3 u0,by simp [upd,g0],r8_val (U xu) 3 _ (by omega) (by omega) (by omega) (by omega) (fun _=>rfl)⟩
    | 4,Z =>
     obtain rfl:=yc Z
     have g1:=K.f1 (yf E 1 rfl)
     have eV:=K.s0 xt
     subst eV
     have xZ:=U jn
     obtain ⟨y0,z0,q0⟩:=zl xZ (j:=0) (by omega)
     obtain ⟨y1,z1,q1⟩:=zl xZ (j:=1) (by omega)
     obtain ⟨y2,z2,q2⟩:=zl xZ (j:=2) (by omega)
     obtain ⟨y3,z3,q3⟩:=zl xZ (j:=3) (by omega)
     obtain ⟨y4,z4,q4⟩:=zl xZ (j:=4) (by omega)
     obtain ⟨y5,z5,q5⟩:=zl xZ (j:=5) (by omega)
     have n5':=n5 (by omega)
     clear E K xZ
     rw [if_pos (by rfl)];unfold Oper.wp;go_simp
     have HR4:=r8_4 (U xu) xt n5'
     conv at HR4=>arg 9; rw [U HV1]
     exact ⟨f,by simp [g1],HR4⟩
    | 5,Z =>
     obtain rfl:=yc Z
     have g2:=K.f2 (yf E 2 rfl)
     have k4:x[4]? = some true:=E ⟨4,.chain⟩ (by simp) rfl
     have eV:=K.s1 k4 xt
     subst eV
     have vH:=r8_5 (U xu) k4 xt
     clear E K
     rw [if_pos (by rfl)];unfold Oper.wp;go_simp
     exact ⟨upd f 5 u7,by simp [upd,g2],vH⟩
    | i' + 6,Z=>simp at Z
  ·have h0:0 < left:=by simp only at pQ; omega
   obtain ⟨k2,_,aA,hmi2,hme2⟩:=mi_step aC h0 oH (by rw [← cross_meet (U HP),← U HTT]; exact kT)
   obtain rfl:i = k2:=rise_id aC.good.rise ja aA rfl
   have Z:=aC.good.left o (yP ja)
   have HMI2:=H hmi2
   have HIO:=H ja
   clear hmi2 aC oH kT pQ aA ja
   have hii:(0:Int) ≤ i:=by omega
   refine gv fun hR xU=>?_
   go_wp2_with fail
   refine U xU _ _ ?_
   clear xU
   refine gv fun hR xU=>?_
   refine wp_block ?_
   refine gv fun K2 pk=>?_
   have hsf:=sfl
   go_wp2_with fail
   refine U pk _ _ ?_
   clear pk
   have po:=gp wr (Obj.cells #[I 0,I 0,I 0,I 0,I 0,I 0,I 0,yk 0,yl ⟨#[]⟩,I 0,I 0,I 0,I 0,I 0] 52)
   have hsY:=zj wr (Obj.cells #[I 0,I 0,I 0,I 0,I 0,I 0,I 0,yk 0,yl ⟨#[]⟩,I 0,I 0,I 0,I 0,I 0] 52)
   have oS:=H (zc (U oS) po (by omega))
   have HT0:=H (zm (U HT0) po (by omega))
   have jn:=H (zm (U jn) po (by omega))
   have HER2:=H (dJ (U kh) po)
   have HEB:Hid (∀ g,u7.ownBlock = some g→w.heap.size + 1 + 1 ≤ g∧g < wr.heap.size):=fun g hg=>(U kh).lt g hg
   have uQ:=H (zi (U uQ) po yb)
   have qM:=H (cj wr [I 0,I 0,I 0,I 0,I 0,I 0,I 0,yk 0,yl ⟨#[]⟩,I 0,I 0,I 0,I 0,I 0] 52)
   have uc:=H (gu (U uc) po)
   clear po kh HLV
   have qM:Hid (World.there (wr.alloc (Obj.cells #[I 0,I 0,I 0,I 0,I 0,I 0,I 0,yk 0,yl ⟨#[]⟩,I 0,I 0,I 0,I 0,I 0] 52)) wr.heap.size 0 14):=U qM
   generalize wr.alloc (Obj.cells #[I 0,I 0,I 0,I 0,I 0,I 0,I 0,yk 0,yl ⟨#[]⟩,I 0,I 0,I 0,I 0,I 0] 52) = h2 at oS HT0 jn HER2 uQ qM uc hsY ⊢
   generalize wr.heap.size = xh at HEB qM hsY kB ⊢
   obtain ⟨c0,c1,c2,c3,c4,c5⟩:=yD (U oS)
   refine gv fun K2 pk=>?_
   go_wp2_with fail
   refine (l04Hit_any _ l' ⟨next,L,tt,left,V,cg⟩ o i h2 (U uQ) (by omega) (U HIO) jS hl1 (by omega) Z.2).mono ?_
   rintro e w2 ⟨v2,rfl,kV,xK⟩
   simp only [Od.vs,Ev.vs,trE,zCm]
   simp only at kV
   have hq0':0 ≤ min left o.left:=by omega
   generalize min left o.left = q at kV HMI2 hme2 hq0' ⊢
   have qS:=H kV
   have xw:=H xK
   have hTa:=zm (U HT0) xK (by omega)
   have pL:=zm (U qM) xK (by omega)
   have aV:=H hTa
   have HTB:=H pL
   have HT1':=H (zm (U jn) xK (by omega))
   have HER3:=H (dJ (U HER2) xK)
   have HBW2:=H (gu (U uc) xK)
   have ug:=xK.size
   obtain ⟨ya0,za0,qa0⟩:=zl hTa (j:=0) (by omega)
   obtain ⟨ya1,za1,qa1⟩:=zl hTa (j:=1) (by omega)
   obtain ⟨ya2,za2,qa2⟩:=zl hTa (j:=2) (by omega)
   obtain ⟨ya3,za3,qa3⟩:=zl hTa (j:=3) (by omega)
   obtain ⟨ya4,za4,qa4⟩:=zl hTa (j:=4) (by omega)
   obtain ⟨ya5,za5,qa5⟩:=zl hTa (j:=5) (by omega)
   obtain ⟨yb0,zb0,qb0⟩:=zl pL (j:=0) (by omega)
   obtain ⟨yb1,zb1,qb1⟩:=zl pL (j:=1) (by omega)
   obtain ⟨yb2,zb2,qb2⟩:=zl pL (j:=2) (by omega)
   obtain ⟨yb3,zb3,qb3⟩:=zl pL (j:=3) (by omega)
   obtain ⟨yb4,zb4,qb4⟩:=zl pL (j:=4) (by omega)
   obtain ⟨yb5,zb5,qb5⟩:=zl pL (j:=5) (by omega)
   obtain ⟨yb6,zb6,qb6⟩:=zl pL (j:=6) (by omega)
   obtain ⟨yb7,zb7,qb7⟩:=zl pL (j:=7) (by omega)
   obtain ⟨yb8,zb8,qb8⟩:=zl pL (j:=8) (by omega)
   obtain ⟨yb9,zb9,qb9⟩:=zl pL (j:=9) (by omega)
   obtain ⟨yb10,zb10,qb10⟩:=zl pL (j:=10) (by omega)
   obtain ⟨yb11,zb11,qb11⟩:=zl pL (j:=11) (by omega)
   obtain ⟨yb12,zb12,qb12⟩:=zl pL (j:=12) (by omega)
   obtain ⟨yb13,zb13,qb13⟩:=zl pL (j:=13) (by omega)
   have hES:xh ≠ w.heap.size:=by omega
   have hSE:w.heap.size ≠ xh:=by omega
   clear c0 c1 c2 c3 c4 c5 kV xK hTa pL HT0 qM jn HER2 uc uQ oS
   go_wp2_with fail
   refine U pk _ _ ?_
   clear pk za0 qa0 za1 qa1 za2 qa2 za3 qa3 za4 qa4 za5 qa5 zb0 qb0 zb1 qb1 zb2 qb2 zb3 qb3 zb4 qb4 zb5 qb5 zb6 qb6 zb7 qb7 zb8 qb8 zb9 qb9 zb10 qb10 zb11 qb11 zb12 qb12 zb13 qb13
   have eW:((((((((((((((((((((w2.setCell (D w.heap.size 0) (I next)).setCell (D w.heap.size 1) (I L)).setCell (D w.heap.size 2) (I tt)).setCell (D w.heap.size 3) (I (left - q))).setCell (D w.heap.size 4) (I V)).setCell (D w.heap.size 5) (yl cg)).setCell (D xh 0) (I 3)).setCell (D xh 1) (I 0)).setCell (D xh 2) (I 0)).setCell (D xh 3) (I 0)).setCell (D xh 4) (I 0)).setCell (D xh 5) (I 0)).setCell (D xh 6) (I 0)).setCell (D xh 7) (yk 0)).setCell (D xh 8) (yl ⟨#[]⟩)).setCell (D xh 9) (I next)).setCell (D xh 10) (I o.id)).setCell (D xh 11) (I q)).setCell (D xh 12) (I o.ticks)).setCell (D xh 13) (I 0)) = (w2.setCells w.heap.size 0 [I next,I L,I tt,I (left - q),I V,yl cg]).setCells xh 0 [I 3,I 0,I 0,I 0,I 0,I 0,I 0,yk 0,yl ⟨#[]⟩,I next,I o.id,I q,I o.ticks,I 0]:=rfl
   rw [eW]
   clear eW
   obtain ⟨V1,jN⟩:∃ cl:World,cl = w2.setCells w.heap.size 0 [I next,I L,I tt,I (left - q),I V,yl cg]:=⟨_,rfl⟩
   rw [← jN]
   have qT:Hid (V1.rangeAt w.heap.size 0 [I next,I L,I tt,I (left - q),I V,yl cg]):=by rw [jN]; exact yY w2 _ 0 _ (fun j X=>U aV j X)
   have HG1:Hid (V1.there w.heap.size 0 6):=by rw [jN]; exact xc (U aV) _ _ _
   have uh:Hid (V1.there (w.heap.size + 1) 0 6):=by rw [jN]; exact xc (U HT1') _ _ _
   have vn:Hid (V1.there xh 0 14):=by rw [jN]; exact xc (U HTB) _ _ _
   have qX:Hid (ORow V1 h2.heap.size v2 (bu l' i o q)):=by rw [jN]; exact et (by omega) _ _ _ (U qS)
   have HE1:Hid (ERow V1 (w.heap.size + 1 + 1) u7 ts):=by rw [jN]; exact fh (fun e=>by have:=(U HEB _ e.symm).1; omega) _ _ _ (U HER3)
   have uf:Hid (yp w V1):=by rw [jN]; exact zh _ yb _ _ _ (U HBW2)
   have xL:V1.heap.size = w2.heap.size:=by rw [jN,zM]
   clear jN
   obtain ⟨V2,oB⟩:∃ cl:World,cl = V1.setCells xh 0 [I 3,I 0,I 0,I 0,I 0,I 0,I 0,yk 0,yl ⟨#[]⟩,I next,I o.id,I q,I o.ticks,I 0]:=⟨_,rfl⟩
   rw [← oB]
   have vv:Hid (V2.rangeAt xh 0 [I 3,I 0,I 0,I 0,I 0,I 0,I 0,yk 0,yl ⟨#[]⟩,I next,I o.id,I q,I o.ticks,I 0]):=by rw [oB]; exact yY V1 _ 0 _ (fun j X=>U vn j X)
   have kl:Hid (V2.rangeAt w.heap.size 0 [I next,I L,I tt,I (left - q),I V,yl cg]):=by rw [oB]; exact fO (U qT) (by omega)
   have uw:Hid (V2.there w.heap.size 0 6):=by rw [oB]; exact xc (U HG1) _ _ _
   have uC:Hid (V2.there (w.heap.size + 1) 0 6):=by rw [oB]; exact xc (U uh) _ _ _
   have pX:Hid (ORow V2 h2.heap.size v2 (bu l' i o q)):=by rw [oB]; exact et (by omega) _ _ _ (U qX)
   have HE2:Hid (ERow V2 (w.heap.size + 1 + 1) u7 ts):=by rw [oB]; exact fh (fun e=>by have:=(U HEB _ e.symm).2; omega) _ _ _ (U HE1)
   have xH:Hid (yp w V2):=by rw [oB]; exact zh _ (by omega) _ _ _ (U uf)
   have hs4:h2.heap.size ≤ V2.heap.size:=by rw [oB,zM,xL]; exact ug
   clear oB qT HG1 uh vn qX HE1 uf xL qS xw aV HTB HT1' HER3 HBW2
   obtain ⟨e0,e1,e2,e3,e4,e5,e6,e7,e8,e9,uR,uA,vV,uT⟩:=yG (U vv)
   have HE3:=H ((U HE2).alloc (Obj.cells #[I 3,I 0,I 0,I 0,I 0,I 0,I 0,yk 0,yl ⟨#[]⟩,I next,I o.id,I q,I o.ticks,I 0] 52))
   have hs5:V2.heap.size + 1 ≤ (V2.alloc (Obj.cells #[I 3,I 0,I 0,I 0,I 0,I 0,I 0,yk 0,yl ⟨#[]⟩,I next,I o.id,I q,I o.ticks,I 0] 52)).heap.size:=Nat.le_of_eq (zj _ _).symm
   have ui:=gp V2 (Obj.cells #[I 3,I 0,I 0,I 0,I 0,I 0,I 0,yk 0,yl ⟨#[]⟩,I next,I o.id,I q,I o.ticks,I 0] 52)
   have qY:Hid (∀ j u,[I 3,I 0,I 0,I 0,I 0,I 0,I 0,yk 0,yl ⟨#[]⟩,I next,I o.id,I q,I o.ticks,I 0][j]? = some u→(V2.alloc (Obj.cells #[I 3,I 0,I 0,I 0,I 0,I 0,I 0,yk 0,yl ⟨#[]⟩,I next,I o.id,I q,I o.ticks,I 0] 52)).cell? (((D V2.heap.size 0):Addr).add j) = some u):=fun j u hu=>cellsQ V2 [I 3,I 0,I 0,I 0,I 0,I 0,I 0,yk 0,yl ⟨#[]⟩,I next,I o.id,I q,I o.ticks,I 0] 52 j u hu
   have vz:=H (zO (U pX) ui)
   have aT:=H (zc (U kl) ui (by omega))
   have qK:=H (zm (U uw) ui (by omega))
   have jK:=H (zm (U uC) ui (by omega))
   have uk:=H (gu (U xH) ui)
   have HEBv:Hid (∀ g,u7.ownBlock = some g→w.heap.size + 1 + 1 ≤ g):=fun g hg=>(U HEB g hg).1
   clear ui pX kl uw uC xH HEB
   go_wp2_with (at_builtin; go_must (refine wpList_append_own _ rfl _ _ 36 rfl (w.heap.size + 1 + 1) 52 i0 _ 14 120 Tryz.underlying36 vC uK uL uZ rfl (by decide) u7 ts.length (ts.flatMap Ev.vs) rfl (U HE3) (D V2.heap.size 0) 1 1 [I 3,I 0,I 0,I 0,I 0,I 0,I 0,yk 0,yl ⟨#[]⟩,I next,I o.id,I q,I o.ticks,I 0] rfl rfl (U qY) (by simp [Value.oneCell']) (by unfold maxLen; omega) (by omega) (by omega) ?_); intro v5 w5 hown5 jl _; have jy:=H hown5; have uC:=H jl; clear hown5 jl)
   have HRO:=H ((U vz).kept (U uC) (fP (U vz) (U HE3) (by decide)))
   have HNS:Hid (∀ b,b < w.heap.size + 1 + 1→some b ≠ u7.ownBlock):=fun b Q e=>by have:=U HEBv b e.symm; omega
   have pZ:=H (zy (U aT) (U uC) (by omega) (U HNS _ (by omega)))
   have HT5:=H (eP (U qK) (U uC) (by omega) (U HNS _ (by omega)))
   have kM:=H (eP (U jK) (U uC) (by omega) (U HNS _ (by omega)))
   have qH:=H ((U uk).grown (U uC) (U uk).size (fun k hk=>by have:=U HEBv k hk; omega))
   have hs6:=(U uC).size
   have HEN:Hid (ERow w5 (w.heap.size + 1 + 1) v5 (ts ++ [trE next o.id q o.ticks])):=by
    show w5.ownsRow _ _ _ _ (ts ++ [trE next o.id q o.ticks]).length _
    rw [yQ,List.flatMap_append]
    have:=U jy
    simpa [Ev.vs,trE,zCm] using this
   obtain ⟨x0,x1,x2,x3,x4,x5⟩:=yD (U pZ)
   try simp only [Exit.inBlock,Exit.then]
   refine U xU _ _ ?_
   clear xU HE3 qY vz aT qK jK uk uC jy e0 e1 e2 e3 e4 e5 e6 e7 e8 e9 uR uA vV uT
   have kU:=(U HMI2).good
   have jt:=kU.len
   go_wp2_with fail
   refine (fV v2 (bu l' i o q) ⟨next,L,tt,left - q,V,cg⟩ w5 (zI (U HRO) (by omega)) kU.rise (by omega) (U HS)).mono ?_
   rintro e w6 ⟨k6,rfl,hnx6,oF⟩
   have HN:Hid (MaI ⟨ck,L,ct,V,cq,ci,O,cg⟩ next w (.slice a l.length cap) l tt xo (2 * (bu l' i o q).length + (if 0 < left - q then 1 else 0)) v2 v5 (I k6) w6) :=
    ⟨bu l' i o q,left - q,ts ++ [trE next o.id q o.ticks],k6,rfl,.inr (zU (zO (U HRO) oF) (by omega)),dJ (U HEN) oF,hnx6,U HMI2,zc (U pZ) oF (by omega),zm (U HT5) oF (by omega),zm (U kM) oF (by omega),(U qH).trans (oF.mono (U qH).size),by have:=oF.size; omega,Nat.le_refl _⟩
   clear hnx6 oF
   go_wp2_with fail
   go_roundg (2 * (bu l' i o q).length + (if 0 < left - q then 1 else 0))
   case measure=>rw [if_pos h0] at hme; omega
   case rel=>exact U HN
end Go.Proofs.YtnphbkgfjanmgaaGreatDoor
