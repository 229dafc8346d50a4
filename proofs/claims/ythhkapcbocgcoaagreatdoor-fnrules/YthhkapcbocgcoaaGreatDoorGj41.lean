/-
  A taker trades as far as it goes, by the model: proved by walking the function.
-/
import Derived.Test.YthhkapcbocgcoaaGreatDoorGj35
set_option linter.unusedVariables false
set_option maxHeartbeats 6400000
set_option maxRecDepth 100000
namespace Go.Proofs.YthhkapcbocgcoaaGreatDoor
open Go.RowKit
theorem gi {B b:Nat} {v:Value} {l:List Ev} (A:some b ≠ v.ownBlock):∀ (vs:List Value) (o:Nat) (W:World),ERow W B v l→ERow (W.setCells b o vs) B v l
 | [],_,_,h=>h
 | u :: us,o,W,h=>by rw [World.setCells]; exact gi A us (o + 1) _ (cw h A o u)
def MaI (c:Cm) (next:Int) (w:World) (v:Value) (l:List Od) (tt:Int) (hR:List Od × Int × List Ev) (m:Nat) (lv ev kv:Value) (wr:World):Prop :=
 ∃ (l':List Od) (left:Int) (ts:List Ev) (k:Int),kv = H k∧((lv = v∧l' = l) ∨ ORow wr (w.heap.size + 1 + 1) lv l')∧ERow wr (w.heap.size + 1 + 1) ev ts∧NexS l' ⟨next,c.s,tt,left,c.l,c.g⟩ k∧MI c next hR l' left ts ∧
  wr.rangeAt w.heap.size 0 [H next,H c.s,H tt,H left,H c.l,yk c.g]∧wr.there w.heap.size 0 6∧wr.there (w.heap.size + 1) 0 6∧yn w wr∧w.heap.size + 1 + 1 ≤ wr.heap.size∧2 * l'.length + (if 0 < left then 1 else 0) ≤ m
theorem ma_end {c:Cm} {next tt:Int} {hR:List Od × Int × List Ev} {l':List Od} {left:Int} {ts:List Ev} (htt:tt = tkS c.p) (hs:c.s = 1 ∨ c.s = 2) (hp:prcB c = true) (hm:MI c next hR l' left ts) (h:left = 0 ∨ bT l' (othS c.s) = none ∨ ∃ o,bT l' (othS c.s) = some o∧dy c.s tt o = false):hR = (l',left,ts):=by
 subst htt
 rcases h with h | h | ⟨o,h,D⟩
 ·exact mi_done hm (by omega)
 ·exact mi_none hm h
 ·rw [cross_meet hp] at D; exact mi_stop hm h D
def MatEnd (w:World) (v:Value) (l:List Od) (w':World) (v' ve:Value) (hR:List Od × Int × List Ev):Prop :=
 ((v' = v∧hR.1 = l) ∨ ORow w' w.heap.size v' hR.1)∧ERow w' w.heap.size ve hR.2.2∧yn w w'
theorem eRow_base {W:World} {B B':Nat} {v:Value} {l:List Ev} (h:ERow W B v l) (hB:B' ≤ B):ERow W B' v l :=
 ⟨h.1,by
  rcases h.2 with h | ⟨g',c',xz,Q,D,X⟩
  ·exact .inl h
  ·exact .inr ⟨g',c',xz,Q,yO hB D,X⟩⟩
theorem fw (v:Value) (l:List Od) (c:Cm) (next:Int) (w:World) (hr:RdR Od.vs 6 w v l) (hg:GoodL l) (hs:c.s = 1 ∨ c.s = 2) (hp:prcB c = true) (jO:0 ≤ c.q) (jl:c.q ≤ 1000000) :
  Calls Tryz.prog 40 #[v,.agg #[H next,H c.s,H (tkS c.p),H c.q,H c.l,yk c.g]] w fun e w'=>∃ v' ve,e = .returned (.tuple #[v',.agg #[H next,H c.s,H (tkS c.p),H (matL c next 21 l c.q []).2.1,H c.l,yk c.g],ve])∧MatEnd w v l w' v' ve (matL c next 21 l c.q []):=by
 obtain ⟨i0,uJ,uD,uz,uM⟩:=info_parts infoEv
 have HMI0:=M (mi_start (c:=c) (id:=next) hg jO jl)
 have HR:=M hr
 have kt:=M hg
 have HS:=M hs
 have HP:=M hp
 generalize htt:tkS c.p = tt
 have HTT:=M htt.symm
 generalize matL c next 21 l c.q [] = hR at HMI0 ⊢
 obtain ⟨a,cap,rfl,xD,hc⟩:=hr
 obtain ⟨ck,cs,ct,cl,cq,ci,cp,cg⟩:=c
 simp only at hs jO jl htt HTT HS ⊢
 clear hc hg hp xD htt
 have xF:=zi w (Obj.cells #[H next,H cs,H tt,H cq,H cl,yk cg] 65)
 have ug:((w.alloc (Obj.cells #[H next,H cs,H tt,H cq,H cl,yk cg] 65)).alloc (Obj.cells #[H 0,H 0,H 0,H 0,H 0,yk ⟨#[]⟩] 65)).heap.size = w.heap.size + 1 + 1:=by rw [zi,xF]
 have jZ:(((w.alloc (Obj.cells #[H next,H cs,H tt,H cq,H cl,yk cg] 65)).alloc (Obj.cells #[H 0,H 0,H 0,H 0,H 0,yk ⟨#[]⟩] 65)).alloc (Obj.cells #[] 37)).heap.size = w.heap.size + 1 + 1 + 1:=by rw [zi,ug]
 have r1:=zm w [H next,H cs,H tt,H cq,H cl,yk cg] 65
 have t1:=zM w [H next,H cs,H tt,H cq,H cl,yk cg] 65
 have t2:=zM (w.alloc (Obj.cells #[H next,H cs,H tt,H cq,H cl,yk cg] 65)) [H 0,H 0,H 0,H 0,H 0,yk ⟨#[]⟩] 65
 rw [xF] at t2
 have e3:=World.ownsRow_made (base:=w.heap.size + 1 + 1) (e:=37) (size:=14) ((w.alloc (Obj.cells #[H next,H cs,H tt,H cq,H cl,yk cg] 65)).alloc (Obj.cells #[H 0,H 0,H 0,H 0,H 0,yk ⟨#[]⟩] 65)) #[] 0 (by omega) (by decide) rfl
 rw [ug] at e3
 have b1:=gZ w (Obj.cells #[H next,H cs,H tt,H cq,H cl,yk cg] 65)
 have b2:Below (w.heap.size + 1) (w.alloc (Obj.cells #[H next,H cs,H tt,H cq,H cl,yk cg] 65)) ((w.alloc (Obj.cells #[H next,H cs,H tt,H cq,H cl,yk cg] 65)).alloc (Obj.cells #[H 0,H 0,H 0,H 0,H 0,yk ⟨#[]⟩] 65)):=(Below.refl _ _).alloc (by omega) _
 have b3:Below (w.heap.size + 1 + 1) ((w.alloc (Obj.cells #[H next,H cs,H tt,H cq,H cl,yk cg] 65)).alloc (Obj.cells #[H 0,H 0,H 0,H 0,H 0,yk ⟨#[]⟩] 65)) (((w.alloc (Obj.cells #[H next,H cs,H tt,H cq,H cl,yk cg] 65)).alloc (Obj.cells #[H 0,H 0,H 0,H 0,H 0,yk ⟨#[]⟩] 65)).alloc (Obj.cells #[] 37)):=(Below.refl _ _).alloc (by omega) _
 have b23:=b2.trans (b3.mono (by omega))
 have HX:Hid (_∧_∧_∧_):=⟨zc r1 b23 (by omega),zk t1 b23 (by omega),zk t2 b3 (by omega),e3⟩
 have xG:=M (b1.trans (b23.mono (by omega)))
 have ji:=M jZ
 clear xF ug jZ r1 t1 t2 b1 b2 b3 b23 e3
 go_enter Tryz.func40,Tryz.ntmps40
 refine ic fun xh xK=>?_
 go_wp2_with fail
 refine U xK _ _ ?_
 clear xK
 refine ic fun xh xK=>?_
 go_wp2_with fail
 refine U xK _ _ ?_
 clear xK
 generalize (((w.alloc (Obj.cells #[H next,H cs,H tt,H cq,H cl,yk cg] 65)).alloc (Obj.cells #[H 0,H 0,H 0,H 0,H 0,yk ⟨#[]⟩] 65)).alloc (Obj.cells #[] 37)) = h3 at HX xG ji ⊢
 have HX:Hid (h3.rangeAt w.heap.size 0 [H next,H cs,H tt,H cq,H cl,yk cg]∧h3.there w.heap.size 0 6∧h3.there (w.heap.size + 1) 0 6∧h3.ownsRow (w.heap.size + 1 + 1) 37 14 (.slice (some (J (w.heap.size + 1 + 1) 0)) 0 0) 0 []):=U HX
 obtain ⟨c0,c1,c2,c3,c4,c5⟩:=yD (U HX).1
 go_wp2_with fail
 refine (l04Next_any _ l ⟨next,cs,tt,cq,cl,cg⟩ h3 (zh (U HR) (U xG) hU) (U kt).rise (by have:=(U kt).len; omega) (U HS)).mono ?_
 rintro e w2 ⟨k,rfl,qm,xP⟩
 have vH:Hid (MaI ⟨ck,cs,ct,cl,cq,ci,cp,cg⟩ next w (.slice a l.length cap) l tt hR (2 * l.length + 1) (.slice a l.length cap) (.slice (some (J (w.heap.size + 1 + 1) 0)) 0 0) (H k) w2):=by
  have jZ:=U ji
  refine ⟨l,cq,[],k,rfl,.inl ⟨rfl,rfl⟩,?_,qm,U HMI0,zc (U HX).1 xP (by omega),zk (U HX).2.1 xP (by omega),zk (U HX).2.2.1 xP (by omega),(U xG).trans (xP.mono (U xG).size),by have:=xP.size; omega,by split <;> omega⟩
  exact zN (l:=[]) (U HX).2.2.2 xP
 clear qm xP c0 c1 c2 c3 c4 c5 HX xG ji HMI0
 go_wp2_with fail
 go_loopg [0,7,8] (2 * l.length + 1) (fun m lv ev kv wr=>MaI ⟨ck,cs,ct,cl,cq,ci,cp,cg⟩ next w (.slice a l.length cap) l tt hR m lv ev kv wr)
 case atStart=>exact U vH
 case round =>
  obtain ⟨l',left,ts,kx,rfl,hlv,oQ,qm,aV,hrt,ht0,ht1,oD,bN,hme⟩:=hrel
  have bu:=M oQ
  have HMI:=M aV
  have oO:=M hrt
  have HT0:=M ht0
  have qZ:=M ht1
  have xI:=M oD
  have HLV:=M hlv
  have qh:Hid (RdR Od.vs 6 wr u0 l'):=by
   rcases hlv with ⟨rfl,rfl⟩ | h
   ·exact zh (U HR) oD hU
   ·exact zV h (by have:=aV.good.len; omega)
  have xD:=aV.good.len
  have jk:=aV.l0
  have hl1:=aV.l1
  have hfew:=aV.few
  clear oQ hrt ht0 ht1 oD vH hlv
  rcases qm with ⟨rfl,uU⟩ | ⟨i,o,rfl,hi,jC,pM,hcr,pQ⟩
  ·have HF:=M (ma_end (U HTT) (U HS) (U HP) aV uU)
   clear uU aV
   go_wp2_with fail
   obtain ⟨V0,pJ⟩:∃ V:World,V = { wr with drawn:=wr.drawn + 1 }:=⟨_,rfl⟩
   have HLV:Hid ((u0 = .slice a l.length cap∧l' = l) ∨ ORow V0 (w.heap.size + 1 + 1) u0 l'):=by rw [pJ]; exact U HLV
   have bu:Hid (ERow V0 (w.heap.size + 1 + 1) u7 ts):=by rw [pJ]; exact U bu
   have oO:Hid (V0.rangeAt w.heap.size 0 [H next,H cs,H tt,H left,H cl,yk cg]):=by rw [pJ]; exact U oO
   have qZ:Hid (V0.there (w.heap.size + 1) 0 6):=by rw [pJ]; exact U qZ
   have xI:Hid (yn w V0):=by rw [pJ]; exact (U xI).trans ⟨rfl,rfl,rfl,Nat.le_refl _,fun _ _=>rfl⟩
   obtain ⟨V1,jr⟩:∃ V:World,V = V0.setCells (w.heap.size + 1) 0 [H next,H cs,H tt,H left,H cl,yk cg]:=⟨_,rfl⟩
   have vm:Hid (V1.rangeAt (w.heap.size + 1) 0 [H next,H cs,H tt,H left,H cl,yk cg]):=by rw [jr]; exact yY V0 _ 0 _ (fun j hj=>U qZ j hj)
   have xq:Hid (MatEnd w (.slice a l.length cap) l V1 u0 u7 hR):=by
    rw [U HF]
    refine ⟨?_,?_,?_⟩
    ·rcases U HLV with h | h
     ·exact .inl h
     ·exact .inr (by rw [jr]; exact dE (ft (by omega) _ _ _ h) (by omega))
    ·rw [jr]
     refine eRow_base (gi (fun e=>?_) _ _ _ (U bu)) (show w.heap.size ≤ w.heap.size + 1 + 1 by omega)
     have:=((U bu).lt _ e.symm).1
     omega
    ·rw [jr]; exact zj _ (by omega) _ _ _ (U xI)
   have HFL:Hid (hR.2.1 = left):=by show _ = _; rw [U HF]
   have HV0:=M pJ
   have HV1:=M jr
   clear pJ jr HLV bu xI
   refine zn (R8A (fun f=>{ tmps:=#[u0,.agg #[H next,H cs,H tt,H cq,H cl,yk cg],Z,I w.heap.size 0,f 3,I (w.heap.size + 1) 0,f 5,u7,H (-1),u9,.slice (some (J (w.heap.size + 1 + 1) 0)) 0 0,.slice a l.length cap,.agg #[H next,H cs,H tt,H cq,H cl,yk cg],H k,H (-1),.bool false,u16,u17,u18,u19,u20,u21,u22,u23,u24,u25,u26,u27,u28,u29,u30,u31,f 0,f 1,f 2],defers:=[] }) u0 (.agg #[H next,H cs,H tt,H left,H cl,yk cg]) u7 V0 V1 V1) (by kernel_rfl) ?_ ?_ ?_
   ·exact ⟨fun j=>if j = 3 then .slice none 0 0 else if j = 5 then .slice none 0 0 else Z,rfl,⟨by simp,by simp,by simp,by simp,by simp,fun _=>(U HV0).symm,by simp,by simp⟩⟩
   ·rintro x hb V' ⟨f,rfl,F⟩ hx xN
    have xp:=zY xN hx (by kernel_rfl)
    have e3:=F.f3 (xp 3 (by simp))
    have e5:=F.f5 (xp 5 (by simp))
    have eW:=F.s2 (xp 4 (by simp)) (xp 5 (by simp))
    subst eW
    simp only [e3,e5]
    clear F xp e3 e5 xN hx
    obtain ⟨d0,d1,d2,d3,d4,d5⟩:=yD (U vm)
    go_wp2_with fail
    try simp (config:={ zetaDelta:=true }) only [Exit.noGoto_ret]
    try simp only [Exit.inBlock,Exit.then]
    refine bodyPost_ret (by simp [results,Tryz.results40,go_sem,d0,d1,d2,d3,d4,d5]; try rfl) rfl ?_
    exact ⟨u0,u7,by rw [U HFL],U xq⟩
   ·rintro x hb V' i' o' ⟨f,rfl,F⟩ xo hx Y xu K
    have n5:i' < 5→x[5]? = some false:=fun xM=>by
     rcases dm hx (show 5 < 6 by omega) with h | h
     ·exact h
     ·have:=xo 5 _ rfl h ⟨i',.phase⟩ (by rcases (by omega:i' = 0 ∨ i' = 1 ∨ i' = 2 ∨ i' = 3 ∨ i' = 4) with rfl | rfl | rfl | rfl | rfl <;> simp) rfl
      rw [xu] at this; cases this
    have n4:i' = 0 ∨ i' = 1 ∨ i' = 3→x[4]? = some false:=fun xM=>by
     rcases dm hx (show 4 < 6 by omega) with h | h
     ·exact h
     ·have:=xo 4 _ rfl h ⟨i',.phase⟩ (by rcases xM with rfl | rfl | rfl <;> simp) rfl
      rw [xu] at this; cases this
    have xA:=M F
    clear xo
    match i',Y with
    | 0,Y =>
     obtain rfl:=ya Y
     clear K F
     rw [if_pos (by rfl)];unfold Oper.wp;go_simp
     exact ⟨upd f 0 u0,by simp [upd],r8_val (U xA) 0 _ (by omega) (fun _=>rfl) (by omega) (by omega) (by omega)⟩
    | 1,Y =>
     obtain rfl:=ya Y
     have eV:=F.s0 (n4 (by omega))
     subst eV
     obtain ⟨c0,c1,c2,c3,c4,c5⟩:=yD (U oO)
     clear K F
     rw [if_pos (by rfl)];unfold Oper.wp;go_simp
     exact ⟨upd f 1 (.agg #[H next,H cs,H tt,H left,H cl,yk cg]),by simp [upd],r8_val (U xA) 1 _ (by omega) (by omega) (fun _=>rfl) (by omega) (by omega)⟩
    | 2,Y =>
     obtain rfl:=ya Y
     clear K F
     rw [if_pos (by rfl)];unfold Oper.wp;go_simp
     exact ⟨upd f 2 u7,by simp [upd],r8_val (U xA) 2 _ (by omega) (by omega) (by omega) (fun _=>rfl) (by omega)⟩
    | 3,Y =>
     obtain rfl:=ya Y
     have g0:=F.f0 (ye K 0 rfl)
     clear K F
     rw [if_pos (by rfl)];unfold Oper.wp;go_simp
     exact ⟨upd f 3 u0,by simp [upd,g0],r8_val (U xA) 3 _ (by omega) (by omega) (by omega) (by omega) (fun _=>rfl)⟩
    | 4,Y =>
     obtain rfl:=ya Y
     have g1:=F.f1 (ye K 1 rfl)
     have eV:=F.s0 xu
     subst eV
     have xV:=U qZ
     obtain ⟨y0,z0,q0⟩:=zg xV (j:=0) (by omega)
     obtain ⟨y1,z1,q1⟩:=zg xV (j:=1) (by omega)
     obtain ⟨y2,z2,q2⟩:=zg xV (j:=2) (by omega)
     obtain ⟨y3,z3,q3⟩:=zg xV (j:=3) (by omega)
     obtain ⟨y4,z4,q4⟩:=zg xV (j:=4) (by omega)
     obtain ⟨y5,z5,q5⟩:=zg xV (j:=5) (by omega)
     have n5':=n5 (by omega)
     clear K F xV
     rw [if_pos (by rfl)];unfold Oper.wp;go_simp
     have HR4:=r8_4 (U xA) xu n5'
     conv at HR4=>arg 9; rw [U HV1]
     exact ⟨f,by simp [g1],HR4⟩
    | 5,Y =>
     obtain rfl:=ya Y
     have g2:=F.f2 (ye K 2 rfl)
     have k4:x[4]? = some true:=K ⟨4,.chain⟩ (by simp) rfl
     have eV:=F.s1 k4 xu
     subst eV
     have pD:=r8_5 (U xA) k4 xu
     clear K F
     rw [if_pos (by rfl)];unfold Oper.wp;go_simp
     exact ⟨upd f 5 u7,by simp [upd,g2],pD⟩
    | i' + 6,Y=>simp at Y
  ·have h0:0 < left:=by simp only at pQ; omega
   obtain ⟨k2,_,hk2,hmi2,hme2⟩:=mi_step aV h0 pM (by rw [← cross_meet (U HP),← U HTT]; exact hcr)
   obtain rfl:i = k2:=rise_id aV.good.rise jC hk2 rfl
   have Y:=aV.good.left o (yP jC)
   have HMI2:=M hmi2
   have HIO:=M jC
   clear hmi2 aV pM hcr pQ hk2 jC
   have hii:(0:Int) ≤ i:=by omega
   refine ic fun xh xK=>?_
   go_wp2_with fail
   refine U xK _ _ ?_
   clear xK
   refine ic fun xh xK=>?_
   refine wp_block ?_
   refine ic fun K2 kL=>?_
   have hsf:=sfl
   go_wp2_with fail
   refine U kL _ _ ?_
   clear kL
   have kj:=gZ wr (Obj.cells #[H 0,H 0,H 0,H 0,H 0,H 0,H 0,yj 0,yk ⟨#[]⟩,H 0,H 0,H 0,H 0,H 0] 37)
   have hsY:=zi wr (Obj.cells #[H 0,H 0,H 0,H 0,H 0,H 0,H 0,yj 0,yk ⟨#[]⟩,H 0,H 0,H 0,H 0,H 0] 37)
   have oO:=M (zc (U oO) kj (by omega))
   have HT0:=M (zk (U HT0) kj (by omega))
   have qZ:=M (zk (U qZ) kj (by omega))
   have HER2:=M (zN (U bu) kj)
   have HEB:Hid (∀ g,u7.ownBlock = some g→w.heap.size + 1 + 1 ≤ g∧g < wr.heap.size):=fun g hg=>(U bu).lt g hg
   have qh:=M (zh (U qh) kj hU)
   have HTE:=M (zM wr [H 0,H 0,H 0,H 0,H 0,H 0,H 0,yj 0,yk ⟨#[]⟩,H 0,H 0,H 0,H 0,H 0] 37)
   have xI:=M (ia (U xI) kj)
   clear kj bu HLV
   have HTE:Hid (World.there (wr.alloc (Obj.cells #[H 0,H 0,H 0,H 0,H 0,H 0,H 0,yj 0,yk ⟨#[]⟩,H 0,H 0,H 0,H 0,H 0] 37)) wr.heap.size 0 14):=U HTE
   generalize wr.alloc (Obj.cells #[H 0,H 0,H 0,H 0,H 0,H 0,H 0,yj 0,yk ⟨#[]⟩,H 0,H 0,H 0,H 0,H 0] 37) = ho at oO HT0 qZ HER2 qh HTE xI hsY ⊢
   generalize wr.heap.size = hk at HEB HTE hsY bN ⊢
   obtain ⟨c0,c1,c2,c3,c4,c5⟩:=yD (U oO)
   refine ic fun K2 kL=>?_
   go_wp2_with fail
   refine (l04Hit_any _ l' ⟨next,cs,tt,left,cl,cg⟩ o i ho (U qh) (by omega) (U HIO) jk hl1 (by omega) Y.2).mono ?_
   rintro e w2 ⟨v2,rfl,kU,xP⟩
   simp only [Od.vs,Ev.vs,trE,zCm]
   simp only at kU
   have hq0':0 ≤ min left o.left:=by omega
   generalize min left o.left = q at kU HMI2 hme2 hq0' ⊢
   have qy:=M kU
   have xt:=M xP
   have hTa:=zk (U HT0) xP (by omega)
   have pI:=zk (U HTE) xP (by omega)
   have ja:=M hTa
   have HTB:=M pI
   have HT1':=M (zk (U qZ) xP (by omega))
   have HER3:=M (zN (U HER2) xP)
   have HBW2:=M (ia (U xI) xP)
   have ug:=xP.size
   obtain ⟨ya0,za0,qa0⟩:=zg hTa (j:=0) (by omega)
   obtain ⟨ya1,za1,qa1⟩:=zg hTa (j:=1) (by omega)
   obtain ⟨ya2,za2,qa2⟩:=zg hTa (j:=2) (by omega)
   obtain ⟨ya3,za3,qa3⟩:=zg hTa (j:=3) (by omega)
   obtain ⟨ya4,za4,qa4⟩:=zg hTa (j:=4) (by omega)
   obtain ⟨ya5,za5,qa5⟩:=zg hTa (j:=5) (by omega)
   obtain ⟨yb0,zb0,qb0⟩:=zg pI (j:=0) (by omega)
   obtain ⟨yb1,zb1,qb1⟩:=zg pI (j:=1) (by omega)
   obtain ⟨yb2,zb2,qb2⟩:=zg pI (j:=2) (by omega)
   obtain ⟨yb3,zb3,qb3⟩:=zg pI (j:=3) (by omega)
   obtain ⟨yb4,zb4,qb4⟩:=zg pI (j:=4) (by omega)
   obtain ⟨yb5,zb5,qb5⟩:=zg pI (j:=5) (by omega)
   obtain ⟨yb6,zb6,qb6⟩:=zg pI (j:=6) (by omega)
   obtain ⟨yb7,zb7,qb7⟩:=zg pI (j:=7) (by omega)
   obtain ⟨yb8,zb8,qb8⟩:=zg pI (j:=8) (by omega)
   obtain ⟨yb9,zb9,qb9⟩:=zg pI (j:=9) (by omega)
   obtain ⟨yb10,zb10,qb10⟩:=zg pI (j:=10) (by omega)
   obtain ⟨yb11,zb11,qb11⟩:=zg pI (j:=11) (by omega)
   obtain ⟨yb12,zb12,qb12⟩:=zg pI (j:=12) (by omega)
   obtain ⟨yb13,zb13,qb13⟩:=zg pI (j:=13) (by omega)
   have hES:hk ≠ w.heap.size:=by omega
   have hSE:w.heap.size ≠ hk:=by omega
   clear c0 c1 c2 c3 c4 c5 kU xP hTa pI HT0 HTE qZ HER2 xI qh oO
   go_wp2_with fail
   refine U kL _ _ ?_
   clear kL za0 qa0 za1 qa1 za2 qa2 za3 qa3 za4 qa4 za5 qa5 zb0 qb0 zb1 qb1 zb2 qb2 zb3 qb3 zb4 qb4 zb5 qb5 zb6 qb6 zb7 qb7 zb8 qb8 zb9 qb9 zb10 qb10 zb11 qb11 zb12 qb12 zb13 qb13
   have eW:((((((((((((((((((((w2.setCell (J w.heap.size 0) (H next)).setCell (J w.heap.size 1) (H cs)).setCell (J w.heap.size 2) (H tt)).setCell (J w.heap.size 3) (H (left - q))).setCell (J w.heap.size 4) (H cl)).setCell (J w.heap.size 5) (yk cg)).setCell (J hk 0) (H 3)).setCell (J hk 1) (H 0)).setCell (J hk 2) (H 0)).setCell (J hk 3) (H 0)).setCell (J hk 4) (H 0)).setCell (J hk 5) (H 0)).setCell (J hk 6) (H 0)).setCell (J hk 7) (yj 0)).setCell (J hk 8) (yk ⟨#[]⟩)).setCell (J hk 9) (H next)).setCell (J hk 10) (H o.id)).setCell (J hk 11) (H q)).setCell (J hk 12) (H o.ticks)).setCell (J hk 13) (H 0)) = (w2.setCells w.heap.size 0 [H next,H cs,H tt,H (left - q),H cl,yk cg]).setCells hk 0 [H 3,H 0,H 0,H 0,H 0,H 0,H 0,yj 0,yk ⟨#[]⟩,H next,H o.id,H q,H o.ticks,H 0]:=rfl
   rw [eW]
   clear eW
   obtain ⟨V1,jr⟩:∃ V:World,V = w2.setCells w.heap.size 0 [H next,H cs,H tt,H (left - q),H cl,yk cg]:=⟨_,rfl⟩
   rw [← jr]
   have vm:Hid (V1.rangeAt w.heap.size 0 [H next,H cs,H tt,H (left - q),H cl,yk cg]):=by rw [jr]; exact yY w2 _ 0 _ (fun j hj=>U ja j hj)
   have oN:Hid (V1.there w.heap.size 0 6):=by rw [jr]; exact xc (U ja) _ _ _
   have uo:Hid (V1.there (w.heap.size + 1) 0 6):=by rw [jr]; exact xc (U HT1') _ _ _
   have uS:Hid (V1.there hk 0 14):=by rw [jr]; exact xc (U HTB) _ _ _
   have vv:Hid (ORow V1 ho.heap.size v2 (bQ l' i o q)):=by rw [jr]; exact ft (by omega) _ _ _ (U qy)
   have oM:Hid (ERow V1 (w.heap.size + 1 + 1) u7 ts):=by rw [jr]; exact gi (fun e=>by have:=(U HEB _ e.symm).1; omega) _ _ _ (U HER3)
   have xU:Hid (yn w V1):=by rw [jr]; exact zj _ hU _ _ _ (U HBW2)
   have xF:V1.heap.size = w2.heap.size:=by rw [jr,eA]
   clear jr
   obtain ⟨V2,oz⟩:∃ V:World,V = V1.setCells hk 0 [H 3,H 0,H 0,H 0,H 0,H 0,H 0,yj 0,yk ⟨#[]⟩,H next,H o.id,H q,H o.ticks,H 0]:=⟨_,rfl⟩
   rw [← oz]
   have qK:Hid (V2.rangeAt hk 0 [H 3,H 0,H 0,H 0,H 0,H 0,H 0,yj 0,yk ⟨#[]⟩,H next,H o.id,H q,H o.ticks,H 0]):=by rw [oz]; exact yY V1 _ 0 _ (fun j hj=>U uS j hj)
   have vS:Hid (V2.rangeAt w.heap.size 0 [H next,H cs,H tt,H (left - q),H cl,yk cg]):=by rw [oz]; exact gE (U vm) (by omega)
   have uk:Hid (V2.there w.heap.size 0 6):=by rw [oz]; exact xc (U oN) _ _ _
   have uu:Hid (V2.there (w.heap.size + 1) 0 6):=by rw [oz]; exact xc (U uo) _ _ _
   have qW:Hid (ORow V2 ho.heap.size v2 (bQ l' i o q)):=by rw [oz]; exact ft (by omega) _ _ _ (U vv)
   have oX:Hid (ERow V2 (w.heap.size + 1 + 1) u7 ts):=by rw [oz]; exact gi (fun e=>by have:=(U HEB _ e.symm).2; omega) _ _ _ (U oM)
   have xO:Hid (yn w V2):=by rw [oz]; exact zj _ (by omega) _ _ _ (U xU)
   have ka:ho.heap.size ≤ V2.heap.size:=by rw [oz,eA,xF]; exact ug
   clear oz vm oN uo uS vv oM xU xF qy xt ja HTB HT1' HER3 HBW2
   obtain ⟨e0,e1,e2,e3,e4,e5,e6,e7,e8,e9,vy,vz,qj,qk⟩:=yG (U qK)
   have pB:=M ((U oX).alloc (Obj.cells #[H 3,H 0,H 0,H 0,H 0,H 0,H 0,yj 0,yk ⟨#[]⟩,H next,H o.id,H q,H o.ticks,H 0] 37))
   have hs5:V2.heap.size + 1 ≤ (V2.alloc (Obj.cells #[H 3,H 0,H 0,H 0,H 0,H 0,H 0,yj 0,yk ⟨#[]⟩,H next,H o.id,H q,H o.ticks,H 0] 37)).heap.size:=Nat.le_of_eq (zi _ _).symm
   have uj:=gZ V2 (Obj.cells #[H 3,H 0,H 0,H 0,H 0,H 0,H 0,yj 0,yk ⟨#[]⟩,H next,H o.id,H q,H o.ticks,H 0] 37)
   have vf:Hid (∀ j u,[H 3,H 0,H 0,H 0,H 0,H 0,H 0,yj 0,yk ⟨#[]⟩,H next,H o.id,H q,H o.ticks,H 0][j]? = some u→(V2.alloc (Obj.cells #[H 3,H 0,H 0,H 0,H 0,H 0,H 0,yj 0,yk ⟨#[]⟩,H next,H o.id,H q,H o.ticks,H 0] 37)).cell? (((J V2.heap.size 0):Addr).add j) = some u):=fun j u hu=>cellsQ V2 [H 3,H 0,H 0,H 0,H 0,H 0,H 0,yj 0,yk ⟨#[]⟩,H next,H o.id,H q,H o.ticks,H 0] 37 j u hu
   have oa:=M (zp (U qW) uj)
   have pe:=M (zc (U vS) uj (by omega))
   have qE:=M (zk (U uk) uj (by omega))
   have qP:=M (zk (U uu) uj (by omega))
   have uE:=M (ia (U xO) uj)
   have HEBv:Hid (∀ g,u7.ownBlock = some g→w.heap.size + 1 + 1 ≤ g):=fun g hg=>(U HEB g hg).1
   clear uj qW vS uk uu xO HEB
   go_wp2_with (at_builtin; go_must (refine wpList_append_own _ rfl _ _ 28 rfl (w.heap.size + 1 + 1) 37 i0 _ 14 120 Tryz.underlying28 uJ uD uz uM rfl (by decide) u7 ts.length (ts.flatMap Ev.vs) rfl (U pB) (J V2.heap.size 0) 1 1 [H 3,H 0,H 0,H 0,H 0,H 0,H 0,yj 0,yk ⟨#[]⟩,H next,H o.id,H q,H o.ticks,H 0] rfl rfl (U vf) (by simp [Value.oneCell']) (by unfold maxLen; omega) (by omega) (by omega) ?_); intro v5 w5 qB qw _; have ax:=M qB; have uu:=M qw; clear qB qw)
   have HRO:=M ((U oa).kept (U uu) (dY (U oa) (U pB) (by decide)))
   have jR:Hid (∀ b,b < w.heap.size + 1 + 1→some b ≠ u7.ownBlock):=fun b A e=>by have:=U HEBv b e.symm; omega
   have aA:=M (zv (U pe) (U uu) (by omega) (U jR _ (by omega)))
   have HT5:=M (eD (U qE) (U uu) (by omega) (U jR _ (by omega)))
   have jy:=M (eD (U qP) (U uu) (by omega) (U jR _ (by omega)))
   have vV:=M ((U uE).grown (U uu) (U uE).size (fun k E=>by have:=U HEBv k E; omega))
   have hs6:=(U uu).size
   have oo:Hid (ERow w5 (w.heap.size + 1 + 1) v5 (ts ++ [trE next o.id q o.ticks])):=by
    show w5.ownsRow _ _ _ _ (ts ++ [trE next o.id q o.ticks]).length _
    rw [yQ,List.flatMap_append]
    have:=U ax
    simpa [Ev.vs,trE,zCm] using this
   obtain ⟨x0,x1,x2,x3,x4,x5⟩:=yD (U aA)
   try simp only [Exit.inBlock,Exit.then]
   refine U xK _ _ ?_
   clear xK pB vf oa pe qE qP uE uu ax e0 e1 e2 e3 e4 e5 e6 e7 e8 e9 vy vz qj qk
   have hgl:=(U HMI2).good
   have hln:=hgl.len
   go_wp2_with fail
   refine (l04Next_any v2 (bQ l' i o q) ⟨next,cs,tt,left - q,cl,cg⟩ w5 (zV (U HRO) (by omega)) hgl.rise (by omega) (U HS)).mono ?_
   rintro e w6 ⟨k6,rfl,hnx6,jW⟩
   have HN:Hid (MaI ⟨ck,cs,ct,cl,cq,ci,cp,cg⟩ next w (.slice a l.length cap) l tt hR (2 * (bQ l' i o q).length + (if 0 < left - q then 1 else 0)) v2 v5 (H k6) w6) :=
    ⟨bQ l' i o q,left - q,ts ++ [trE next o.id q o.ticks],k6,rfl,.inr (dE (zp (U HRO) jW) (by omega)),zN (U oo) jW,hnx6,U HMI2,zc (U aA) jW (by omega),zk (U HT5) jW (by omega),zk (U jy) jW (by omega),(U vV).trans (jW.mono (U vV).size),by have:=jW.size; omega,Nat.le_refl _⟩
   clear hnx6 jW
   go_wp2_with fail
   go_roundg (2 * (bQ l' i o q).length + (if 0 < left - q then 1 else 0))
   case measure=>rw [if_pos h0] at hme; omega
   case rel=>exact U HN
end Go.Proofs.YthhkapcbocgcoaaGreatDoor
