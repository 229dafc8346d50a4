/-
  A taker trades as far as it goes, by the model: proved by walking the function.
-/
import Derived.Test.YtdliebbfcmdmaaaGreatMj28
import Derived.Test.YtdliebbfcmdmaaaGreatMj36
set_option linter.unusedVariables false
set_option maxHeartbeats 6400000
set_option maxRecDepth 100000
namespace Go.Proofs.YtdliebbfcmdmaaaGreat
open Go.RowKit
theorem dy {B b:Nat} {v:Value} {l:List Ev} (L:some b ≠ v.ownBlock):∀ (vs:List Value) (o:Nat) (W:World),ERow W B v l→ERow (W.setCells b o vs) B v l
 | [],_,_,h=>h
 | u :: us,o,W,h=>by rw [World.setCells]; exact dy L us (o + 1) _ (zr h L o u)
def MaI (c:Cm) (next:Int) (w:World) (v:Value) (l:List Od) (tt:Int) (qt:List Od × Int × List Ev) (m:Nat) (lv ev kv:Value) (wr:World):Prop :=
 ∃ (l':List Od) (left:Int) (ts:List Ev) (k:Int),kv = H k∧((lv = v∧l' = l) ∨ ORow wr (w.heap.size + 1 + 1) lv l')∧ERow wr (w.heap.size + 1 + 1) ev ts∧NexS l' ⟨next,c.s,tt,left,c.l,c.g⟩ k∧MI c next qt l' left ts ∧
  wr.rangeAt w.heap.size 0 [H next,H c.s,H tt,H left,H c.l,yk c.g]∧wr.there w.heap.size 0 6∧wr.there (w.heap.size + 1) 0 6∧yn w wr∧w.heap.size + 1 + 1 ≤ wr.heap.size∧2 * l'.length + (if 0 < left then 1 else 0) ≤ m
theorem ma_end {c:Cm} {next tt:Int} {qt:List Od × Int × List Ev} {l':List Od} {left:Int} {ts:List Ev} (htt:tt = tkS c.p) (hs:c.s = 1 ∨ c.s = 2) (hp:prcB c = true) (hm:MI c next qt l' left ts) (h:left = 0 ∨ aJ l' (othS c.s) = none ∨ ∃ o,aJ l' (othS c.s) = some o∧bm c.s tt o = false):qt = (l',left,ts):=by
 subst htt
 rcases h with h | h | ⟨o,h,N⟩
 ·exact mi_done hm (by omega)
 ·exact mi_none hm h
 ·rw [cross_meet hp] at N; exact mi_stop hm h N
def MatEnd (w:World) (v:Value) (l:List Od) (w':World) (v' ve:Value) (qt:List Od × Int × List Ev):Prop :=
 ((v' = v∧qt.1 = l) ∨ ORow w' w.heap.size v' qt.1)∧ERow w' w.heap.size ve qt.2.2∧yn w w'
theorem eRow_base {W:World} {B B':Nat} {v:Value} {l:List Ev} (h:ERow W B v l) (hB:B' ≤ B):ERow W B' v l :=
 ⟨h.1,by
  rcases h.2 with h | ⟨g',c',xr,Q,N,h3⟩
  ·exact .inl h
  ·exact .inr ⟨g',c',xr,Q,yN hB N,h3⟩⟩
theorem cX (v:Value) (l:List Od) (c:Cm) (next:Int) (w:World) (hr:RdR Od.vs 6 w v l) (hg:GoodL l) (hs:c.s = 1 ∨ c.s = 2) (hp:prcB c = true) (jm:0 ≤ c.q) (jn:c.q ≤ 1000000) :
  Calls Tryz.prog 45 #[v,.agg #[H next,H c.s,H (tkS c.p),H c.q,H c.l,yk c.g]] w fun e w'=>∃ v' ve,e = .returned (.tuple #[v',.agg #[H next,H c.s,H (tkS c.p),H (matL c next 21 l c.q []).2.1,H c.l,yk c.g],ve])∧MatEnd w v l w' v' ve (matL c next 21 l c.q []):=by
 obtain ⟨i0,uE,uA,uC,uM⟩:=info_parts infoEv
 have HMI0:=Y (mi_start (c:=c) (id:=next) hg jm jn)
 have HR:=Y hr
 have HGL:=Y hg
 have HS:=Y hs
 have HP:=Y hp
 generalize htt:tkS c.p = tt
 have oj:=Y htt.symm
 generalize matL c next 21 l c.q [] = qt at HMI0 ⊢
 obtain ⟨a,A,rfl,xD,hc⟩:=hr
 obtain ⟨ck,cs,ct,cl,cq,ci,cp,cg⟩:=c
 simp only at hs jm jn htt oj HS ⊢
 clear hc hg hp xD htt
 have xA:=ze w (Obj.cells #[H next,H cs,H tt,H cq,H cl,yk cg] 66)
 have uc:((w.alloc (Obj.cells #[H next,H cs,H tt,H cq,H cl,yk cg] 66)).alloc (Obj.cells #[H 0,H 0,H 0,H 0,H 0,yk ⟨#[]⟩] 66)).heap.size = w.heap.size + 1 + 1:=by rw [ze,xA]
 have qG:(((w.alloc (Obj.cells #[H next,H cs,H tt,H cq,H cl,yk cg] 66)).alloc (Obj.cells #[H 0,H 0,H 0,H 0,H 0,yk ⟨#[]⟩] 66)).alloc (Obj.cells #[] 41)).heap.size = w.heap.size + 1 + 1 + 1:=by rw [ze,uc]
 have r1:=zg w [H next,H cs,H tt,H cq,H cl,yk cg] 66
 have t1:=zu w [H next,H cs,H tt,H cq,H cl,yk cg] 66
 have t2:=zu (w.alloc (Obj.cells #[H next,H cs,H tt,H cq,H cl,yk cg] 66)) [H 0,H 0,H 0,H 0,H 0,yk ⟨#[]⟩] 66
 rw [xA] at t2
 have e3:=World.ownsRow_made (base:=w.heap.size + 1 + 1) (e:=41) (size:=14) ((w.alloc (Obj.cells #[H next,H cs,H tt,H cq,H cl,yk cg] 66)).alloc (Obj.cells #[H 0,H 0,H 0,H 0,H 0,yk ⟨#[]⟩] 66)) #[] 0 (by omega) (by decide) rfl
 rw [uc] at e3
 have b1:=ed w (Obj.cells #[H next,H cs,H tt,H cq,H cl,yk cg] 66)
 have b2:Below (w.heap.size + 1) (w.alloc (Obj.cells #[H next,H cs,H tt,H cq,H cl,yk cg] 66)) ((w.alloc (Obj.cells #[H next,H cs,H tt,H cq,H cl,yk cg] 66)).alloc (Obj.cells #[H 0,H 0,H 0,H 0,H 0,yk ⟨#[]⟩] 66)):=(Below.refl _ _).alloc (by omega) _
 have b3:Below (w.heap.size + 1 + 1) ((w.alloc (Obj.cells #[H next,H cs,H tt,H cq,H cl,yk cg] 66)).alloc (Obj.cells #[H 0,H 0,H 0,H 0,H 0,yk ⟨#[]⟩] 66)) (((w.alloc (Obj.cells #[H next,H cs,H tt,H cq,H cl,yk cg] 66)).alloc (Obj.cells #[H 0,H 0,H 0,H 0,H 0,yk ⟨#[]⟩] 66)).alloc (Obj.cells #[] 41)):=(Below.refl _ _).alloc (by omega) _
 have b23:=b2.trans (b3.mono (by omega))
 have HX:Hid (_∧_∧_∧_):=⟨zb r1 b23 (by omega),zf t1 b23 (by omega),zf t2 b3 (by omega),e3⟩
 have xT:=Y (b1.trans (b23.mono (by omega)))
 have kF:=Y qG
 clear xA uc qG r1 t1 t2 b1 b2 b3 b23 e3
 go_enter Tryz.func45,Tryz.ntmps45
 refine ei fun hR xu=>?_
 go_wp2_with fail
 refine U xu _ _ ?_
 clear xu
 refine ei fun hR xu=>?_
 go_wp2_with fail
 refine U xu _ _ ?_
 clear xu
 generalize (((w.alloc (Obj.cells #[H next,H cs,H tt,H cq,H cl,yk cg] 66)).alloc (Obj.cells #[H 0,H 0,H 0,H 0,H 0,yk ⟨#[]⟩] 66)).alloc (Obj.cells #[] 41)) = ty at HX xT kF ⊢
 have HX:Hid (ty.rangeAt w.heap.size 0 [H next,H cs,H tt,H cq,H cl,yk cg]∧ty.there w.heap.size 0 6∧ty.there (w.heap.size + 1) 0 6∧ty.ownsRow (w.heap.size + 1 + 1) 41 14 (.slice (some (J (w.heap.size + 1 + 1) 0)) 0 0) 0 []):=U HX
 obtain ⟨c0,c1,c2,c3,c4,c5⟩:=yC (U HX).1
 go_wp2_with fail
 refine (l04Next_any _ l ⟨next,cs,tt,cq,cl,cg⟩ ty (zl (U HR) (U xT) tg) (U HGL).rise (by have:=(U HGL).len; omega) (U HS)).mono ?_
 rintro e w2 ⟨k,rfl,qa,xZ⟩
 have uI:Hid (MaI ⟨ck,cs,ct,cl,cq,ci,cp,cg⟩ next w (.slice a l.length A) l tt qt (2 * l.length + 1) (.slice a l.length A) (.slice (some (J (w.heap.size + 1 + 1) 0)) 0 0) (H k) w2):=by
  have qG:=U kF
  refine ⟨l,cq,[],k,rfl,.inl ⟨rfl,rfl⟩,?_,qa,U HMI0,zb (U HX).1 xZ (by omega),zf (U HX).2.1 xZ (by omega),zf (U HX).2.2.1 xZ (by omega),(U xT).trans (xZ.mono (U xT).size),by have:=xZ.size; omega,by split <;> omega⟩
  exact zG (l:=[]) (U HX).2.2.2 xZ
 clear qa xZ c0 c1 c2 c3 c4 c5 HX xT kF HMI0
 go_wp2_with fail
 go_loopg [0,7,8] (2 * l.length + 1) (fun m lv ev kv wr=>MaI ⟨ck,cs,ct,cl,cq,ci,cp,cg⟩ next w (.slice a l.length A) l tt qt m lv ev kv wr)
 case atStart=>exact U uI
 case round =>
  obtain ⟨l',left,ts,kx,rfl,hlv,jW,qa,hmi,hrt,ht0,ht1,qr,jJ,hme⟩:=hrel
  have jM:=Y jW
  have HMI:=Y hmi
  have kr:=Y hrt
  have HT0:=Y ht0
  have jg:=Y ht1
  have xE:=Y qr
  have jS:=Y hlv
  have jf:Hid (RdR Od.vs 6 wr u0 l'):=by
   rcases hlv with ⟨rfl,rfl⟩ | h
   ·exact zl (U HR) qr tg
   ·exact zK h (by have:=hmi.good.len; omega)
  have xD:=hmi.good.len
  have pG:=hmi.l0
  have hl1:=hmi.l1
  have hfew:=hmi.few
  clear jW hrt ht0 ht1 qr uI hlv
  rcases qa with ⟨rfl,vZ⟩ | ⟨i,o,rfl,hi,oo,hfo,hcr,oq⟩
  ·have HF:=Y (ma_end (U oj) (U HS) (U HP) hmi vZ)
   clear vZ hmi
   go_wp2_with fail
   obtain ⟨V0,oW⟩:∃ V:World,V = { wr with drawn:=wr.drawn + 1 }:=⟨_,rfl⟩
   have jS:Hid ((u0 = .slice a l.length A∧l' = l) ∨ ORow V0 (w.heap.size + 1 + 1) u0 l'):=by rw [oW]; exact U jS
   have jM:Hid (ERow V0 (w.heap.size + 1 + 1) u7 ts):=by rw [oW]; exact U jM
   have kr:Hid (V0.rangeAt w.heap.size 0 [H next,H cs,H tt,H left,H cl,yk cg]):=by rw [oW]; exact U kr
   have jg:Hid (V0.there (w.heap.size + 1) 0 6):=by rw [oW]; exact U jg
   have xE:Hid (yn w V0):=by rw [oW]; exact (U xE).trans ⟨rfl,rfl,rfl,Nat.le_refl _,fun _ _=>rfl⟩
   obtain ⟨V1,qi⟩:∃ V:World,V = V0.setCells (w.heap.size + 1) 0 [H next,H cs,H tt,H left,H cl,yk cg]:=⟨_,rfl⟩
   have jD:Hid (V1.rangeAt (w.heap.size + 1) 0 [H next,H cs,H tt,H left,H cl,yk cg]):=by rw [qi]; exact yX V0 _ 0 _ (fun j R=>U jg j R)
   have um:Hid (MatEnd w (.slice a l.length A) l V1 u0 u7 qt):=by
    rw [U HF]
    refine ⟨?_,?_,?_⟩
    ·rcases U jS with h | h
     ·exact .inl h
     ·exact .inr (by rw [qi]; exact bO (cW (by omega) _ _ _ h) (by omega))
    ·rw [qi]
     refine eRow_base (dy (fun e=>?_) _ _ _ (U jM)) (show w.heap.size ≤ w.heap.size + 1 + 1 by omega)
     have:=((U jM).lt _ e.symm).1
     omega
    ·rw [qi]; exact zm _ (by omega) _ _ _ (U xE)
   have HFL:Hid (qt.2.1 = left):=by show _ = _; rw [U HF]
   have HV0:=Y oW
   have HV1:=Y qi
   clear oW qi jS jM xE
   refine zh (R8A (fun f=>{ tmps:=#[u0,.agg #[H next,H cs,H tt,H cq,H cl,yk cg],M,I w.heap.size 0,f 3,I (w.heap.size + 1) 0,f 5,u7,H (-1),u9,.slice (some (J (w.heap.size + 1 + 1) 0)) 0 0,.slice a l.length A,.agg #[H next,H cs,H tt,H cq,H cl,yk cg],H k,H (-1),.bool false,u16,u17,u18,u19,u20,u21,u22,u23,u24,u25,u26,u27,u28,u29,u30,u31,f 0,f 1,f 2],defers:=[] }) u0 (.agg #[H next,H cs,H tt,H left,H cl,yk cg]) u7 V0 V1 V1) (by kernel_rfl) ?_ ?_ ?_
   ·exact ⟨fun j=>if j = 3 then .slice none 0 0 else if j = 5 then .slice none 0 0 else M,rfl,⟨by simp,by simp,by simp,by simp,by simp,fun _=>(U HV0).symm,by simp,by simp⟩⟩
   ·rintro x xm V' ⟨f,rfl,K⟩ hx xP
    have xp:=zP xP hx (by kernel_rfl)
    have e3:=K.f3 (xp 3 (by simp))
    have e5:=K.f5 (xp 5 (by simp))
    have eW:=K.s2 (xp 4 (by simp)) (xp 5 (by simp))
    subst eW
    simp only [e3,e5]
    clear K xp e3 e5 xP hx
    obtain ⟨d0,d1,d2,d3,d4,d5⟩:=yC (U jD)
    go_wp2_with fail
    try simp (config:={ zetaDelta:=true }) only [Exit.noGoto_ret]
    try simp only [Exit.inBlock,Exit.then]
    refine bodyPost_ret (by simp [results,Tryz.results45,go_sem,d0,d1,d2,d3,d4,d5]; try rfl) rfl ?_
    exact ⟨u0,u7,by rw [U HFL],U um⟩
   ·rintro x xm V' i' o' ⟨f,rfl,K⟩ xo hx Z xy D
    have n5:i' < 5→x[5]? = some false:=fun xK=>by
     rcases bE hx (show 5 < 6 by omega) with h | h
     ·exact h
     ·have:=xo 5 _ rfl h ⟨i',.phase⟩ (by rcases (by omega:i' = 0 ∨ i' = 1 ∨ i' = 2 ∨ i' = 3 ∨ i' = 4) with rfl | rfl | rfl | rfl | rfl <;> simp) rfl
      rw [xy] at this; cases this
    have n4:i' = 0 ∨ i' = 1 ∨ i' = 3→x[4]? = some false:=fun xK=>by
     rcases bE hx (show 4 < 6 by omega) with h | h
     ·exact h
     ·have:=xo 4 _ rfl h ⟨i',.phase⟩ (by rcases xK with rfl | rfl | rfl <;> simp) rfl
      rw [xy] at this; cases this
    have xz:=Y K
    clear xo
    match i',Z with
    | 0,Z =>
     obtain rfl:=ya Z
     clear D K
     rw [if_pos (by rfl)];unfold Oper.wp;go_simp
     exact ⟨upd f 0 u0,by simp [upd],r8_val (U xz) 0 _ (by omega) (fun _=>rfl) (by omega) (by omega) (by omega)⟩
    | 1,Z =>
     obtain rfl:=ya Z
     have eV:=K.s0 (n4 (by omega))
     subst eV
     obtain ⟨c0,c1,c2,c3,c4,c5⟩:=yC (U kr)
     clear D K
     rw [if_pos (by rfl)];unfold Oper.wp;go_simp
     exact ⟨upd f 1 (.agg #[H next,H cs,H tt,H left,H cl,yk cg]),by simp [upd],r8_val (U xz) 1 _ (by omega) (by omega) (fun _=>rfl) (by omega) (by omega)⟩
    | 2,Z =>
     obtain rfl:=ya Z
     clear D K
     rw [if_pos (by rfl)];unfold Oper.wp;go_simp
     exact ⟨upd f 2 u7,by simp [upd],r8_val (U xz) 2 _ (by omega) (by omega) (by omega) (fun _=>rfl) (by omega)⟩
    | 3,Z =>
     obtain rfl:=ya Z
     have g0:=K.f0 (ye D 0 rfl)
     clear D K
     rw [if_pos (by rfl)];unfold Oper.wp;go_simp
     exact ⟨upd f 3 u0,by simp [upd,g0],r8_val (U xz) 3 _ (by omega) (by omega) (by omega) (by omega) (fun _=>rfl)⟩
    | 4,Z =>
     obtain rfl:=ya Z
     have g1:=K.f1 (ye D 1 rfl)
     have eV:=K.s0 xy
     subst eV
     have xG:=U jg
     obtain ⟨y0,z0,q0⟩:=zc xG (j:=0) (by omega)
     obtain ⟨y1,z1,q1⟩:=zc xG (j:=1) (by omega)
     obtain ⟨y2,z2,q2⟩:=zc xG (j:=2) (by omega)
     obtain ⟨y3,z3,q3⟩:=zc xG (j:=3) (by omega)
     obtain ⟨y4,z4,q4⟩:=zc xG (j:=4) (by omega)
     obtain ⟨y5,z5,q5⟩:=zc xG (j:=5) (by omega)
     have n5':=n5 (by omega)
     clear D K xG
     rw [if_pos (by rfl)];unfold Oper.wp;go_simp
     have HR4:=r8_4 (U xz) xy n5'
     conv at HR4=>arg 9; rw [U HV1]
     exact ⟨f,by simp [g1],HR4⟩
    | 5,Z =>
     obtain rfl:=ya Z
     have g2:=K.f2 (ye D 2 rfl)
     have k4:x[4]? = some true:=D ⟨4,.chain⟩ (by simp) rfl
     have eV:=K.s1 k4 xy
     subst eV
     have HR5:=r8_5 (U xz) k4 xy
     clear D K
     rw [if_pos (by rfl)];unfold Oper.wp;go_simp
     exact ⟨upd f 5 u7,by simp [upd,g2],HR5⟩
    | i' + 6,Z=>simp at Z
  ·have h0:0 < left:=by simp only at oq; omega
   obtain ⟨k2,_,hk2,hmi2,hme2⟩:=mi_step hmi h0 hfo (by rw [← cross_meet (U HP),← U oj]; exact hcr)
   obtain rfl:i = k2:=rise_id hmi.good.rise oo hk2 rfl
   have Z:=hmi.good.left o (yO oo)
   have HMI2:=Y hmi2
   have HIO:=Y oo
   clear hmi2 hmi hfo hcr oq hk2 oo
   have hii:(0:Int) ≤ i:=by omega
   refine ei fun hR xu=>?_
   go_wp2_with fail
   refine U xu _ _ ?_
   clear xu
   refine ei fun hR xu=>?_
   refine wp_block ?_
   refine ei fun K2 kg=>?_
   have hsf:=sfl
   go_wp2_with fail
   refine U kg _ _ ?_
   clear kg
   have vr:=ed wr (Obj.cells #[H 0,H 0,H 0,H 0,H 0,H 0,H 0,yj 0,yk ⟨#[]⟩,H 0,H 0,H 0,H 0,H 0] 41)
   have hsY:=ze wr (Obj.cells #[H 0,H 0,H 0,H 0,H 0,H 0,H 0,yj 0,yk ⟨#[]⟩,H 0,H 0,H 0,H 0,H 0] 41)
   have kr:=Y (zb (U kr) vr (by omega))
   have HT0:=Y (zf (U HT0) vr (by omega))
   have jg:=Y (zf (U jg) vr (by omega))
   have HER2:=Y (zG (U jM) vr)
   have jp:Hid (∀ g,u7.ownBlock = some g→w.heap.size + 1 + 1 ≤ g∧g < wr.heap.size):=fun g hg=>(U jM).lt g hg
   have jf:=Y (zl (U jf) vr tg)
   have HTE:=Y (zu wr [H 0,H 0,H 0,H 0,H 0,H 0,H 0,yj 0,yk ⟨#[]⟩,H 0,H 0,H 0,H 0,H 0] 41)
   have xE:=Y (eh (U xE) vr)
   clear vr jM jS
   have HTE:Hid (World.there (wr.alloc (Obj.cells #[H 0,H 0,H 0,H 0,H 0,H 0,H 0,yj 0,yk ⟨#[]⟩,H 0,H 0,H 0,H 0,H 0] 41)) wr.heap.size 0 14):=U HTE
   generalize wr.alloc (Obj.cells #[H 0,H 0,H 0,H 0,H 0,H 0,H 0,yj 0,yk ⟨#[]⟩,H 0,H 0,H 0,H 0,H 0] 41) = yb at kr HT0 jg HER2 jf HTE xE hsY ⊢
   generalize wr.heap.size = eg at jp HTE hsY jJ ⊢
   obtain ⟨c0,c1,c2,c3,c4,c5⟩:=yC (U kr)
   refine ei fun K2 kg=>?_
   go_wp2_with fail
   refine (l04Hit_any _ l' ⟨next,cs,tt,left,cl,cg⟩ o i yb (U jf) (by omega) (U HIO) pG hl1 (by omega) Z.2).mono ?_
   rintro e w2 ⟨v2,rfl,ho2,xZ⟩
   simp only [Od.vs,Ev.vs,trE,zCm]
   simp only at ho2
   have hq0':0 ≤ min left o.left:=by omega
   generalize min left o.left = q at ho2 HMI2 hme2 hq0' ⊢
   have vW:=Y ho2
   have xF:=Y xZ
   have hTa:=zf (U HT0) xZ (by omega)
   have oV:=zf (U HTE) xZ (by omega)
   have qM:=Y hTa
   have HTB:=Y oV
   have HT1':=Y (zf (U jg) xZ (by omega))
   have HER3:=Y (zG (U HER2) xZ)
   have HBW2:=Y (eh (U xE) xZ)
   have uc:=xZ.size
   obtain ⟨ya0,za0,qa0⟩:=zc hTa (j:=0) (by omega)
   obtain ⟨ya1,za1,qa1⟩:=zc hTa (j:=1) (by omega)
   obtain ⟨ya2,za2,qa2⟩:=zc hTa (j:=2) (by omega)
   obtain ⟨ya3,za3,qa3⟩:=zc hTa (j:=3) (by omega)
   obtain ⟨ya4,za4,qa4⟩:=zc hTa (j:=4) (by omega)
   obtain ⟨ya5,za5,qa5⟩:=zc hTa (j:=5) (by omega)
   obtain ⟨yb0,zb0,qb0⟩:=zc oV (j:=0) (by omega)
   obtain ⟨yb1,zb1,qb1⟩:=zc oV (j:=1) (by omega)
   obtain ⟨yb2,zb2,qb2⟩:=zc oV (j:=2) (by omega)
   obtain ⟨yb3,zb3,qb3⟩:=zc oV (j:=3) (by omega)
   obtain ⟨yb4,zb4,qb4⟩:=zc oV (j:=4) (by omega)
   obtain ⟨yb5,zb5,qb5⟩:=zc oV (j:=5) (by omega)
   obtain ⟨yb6,zb6,qb6⟩:=zc oV (j:=6) (by omega)
   obtain ⟨yb7,zb7,qb7⟩:=zc oV (j:=7) (by omega)
   obtain ⟨yb8,zb8,qb8⟩:=zc oV (j:=8) (by omega)
   obtain ⟨yb9,zb9,qb9⟩:=zc oV (j:=9) (by omega)
   obtain ⟨yb10,zb10,qb10⟩:=zc oV (j:=10) (by omega)
   obtain ⟨yb11,zb11,qb11⟩:=zc oV (j:=11) (by omega)
   obtain ⟨yb12,zb12,qb12⟩:=zc oV (j:=12) (by omega)
   obtain ⟨yb13,zb13,qb13⟩:=zc oV (j:=13) (by omega)
   have hES:eg ≠ w.heap.size:=by omega
   have hSE:w.heap.size ≠ eg:=by omega
   clear c0 c1 c2 c3 c4 c5 ho2 xZ hTa oV HT0 HTE jg HER2 xE jf kr
   go_wp2_with fail
   refine U kg _ _ ?_
   clear kg za0 qa0 za1 qa1 za2 qa2 za3 qa3 za4 qa4 za5 qa5 zb0 qb0 zb1 qb1 zb2 qb2 zb3 qb3 zb4 qb4 zb5 qb5 zb6 qb6 zb7 qb7 zb8 qb8 zb9 qb9 zb10 qb10 zb11 qb11 zb12 qb12 zb13 qb13
   have eW:((((((((((((((((((((w2.setCell (J w.heap.size 0) (H next)).setCell (J w.heap.size 1) (H cs)).setCell (J w.heap.size 2) (H tt)).setCell (J w.heap.size 3) (H (left - q))).setCell (J w.heap.size 4) (H cl)).setCell (J w.heap.size 5) (yk cg)).setCell (J eg 0) (H 3)).setCell (J eg 1) (H 0)).setCell (J eg 2) (H 0)).setCell (J eg 3) (H 0)).setCell (J eg 4) (H 0)).setCell (J eg 5) (H 0)).setCell (J eg 6) (H 0)).setCell (J eg 7) (yj 0)).setCell (J eg 8) (yk ⟨#[]⟩)).setCell (J eg 9) (H next)).setCell (J eg 10) (H o.id)).setCell (J eg 11) (H q)).setCell (J eg 12) (H o.ticks)).setCell (J eg 13) (H 0)) = (w2.setCells w.heap.size 0 [H next,H cs,H tt,H (left - q),H cl,yk cg]).setCells eg 0 [H 3,H 0,H 0,H 0,H 0,H 0,H 0,yj 0,yk ⟨#[]⟩,H next,H o.id,H q,H o.ticks,H 0]:=rfl
   rw [eW]
   clear eW
   obtain ⟨V1,qi⟩:∃ V:World,V = w2.setCells w.heap.size 0 [H next,H cs,H tt,H (left - q),H cl,yk cg]:=⟨_,rfl⟩
   rw [← qi]
   have jD:Hid (V1.rangeAt w.heap.size 0 [H next,H cs,H tt,H (left - q),H cl,yk cg]):=by rw [qi]; exact yX w2 _ 0 _ (fun j R=>U qM j R)
   have jN:Hid (V1.there w.heap.size 0 6):=by rw [qi]; exact xb (U qM) _ _ _
   have uL:Hid (V1.there (w.heap.size + 1) 0 6):=by rw [qi]; exact xb (U HT1') _ _ _
   have vK:Hid (V1.there eg 0 14):=by rw [qi]; exact xb (U HTB) _ _ _
   have vh:Hid (ORow V1 yb.heap.size v2 (az l' i o q)):=by rw [qi]; exact cW (by omega) _ _ _ (U vW)
   have pn:Hid (ERow V1 (w.heap.size + 1 + 1) u7 ts):=by rw [qi]; exact dy (fun e=>by have:=(U jp _ e.symm).1; omega) _ _ _ (U HER3)
   have xW:Hid (yn w V1):=by rw [qi]; exact zm _ tg _ _ _ (U HBW2)
   have xA:V1.heap.size = w2.heap.size:=by rw [qi,bM]
   clear qi
   obtain ⟨V2,kK⟩:∃ V:World,V = V1.setCells eg 0 [H 3,H 0,H 0,H 0,H 0,H 0,H 0,yj 0,yk ⟨#[]⟩,H next,H o.id,H q,H o.ticks,H 0]:=⟨_,rfl⟩
   rw [← kK]
   have vp:Hid (V2.rangeAt eg 0 [H 3,H 0,H 0,H 0,H 0,H 0,H 0,yj 0,yk ⟨#[]⟩,H next,H o.id,H q,H o.ticks,H 0]):=by rw [kK]; exact yX V1 _ 0 _ (fun j R=>U vK j R)
   have oC:Hid (V2.rangeAt w.heap.size 0 [H next,H cs,H tt,H (left - q),H cl,yk cg]):=by rw [kK]; exact dM (U jD) (by omega)
   have HG4:Hid (V2.there w.heap.size 0 6):=by rw [kK]; exact xb (U jN) _ _ _
   have qW:Hid (V2.there (w.heap.size + 1) 0 6):=by rw [kK]; exact xb (U uL) _ _ _
   have qL:Hid (ORow V2 yb.heap.size v2 (az l' i o q)):=by rw [kK]; exact cW (by omega) _ _ _ (U vh)
   have pW:Hid (ERow V2 (w.heap.size + 1 + 1) u7 ts):=by rw [kK]; exact dy (fun e=>by have:=(U jp _ e.symm).2; omega) _ _ _ (U pn)
   have un:Hid (yn w V2):=by rw [kK]; exact zm _ (by omega) _ _ _ (U xW)
   have hs4:yb.heap.size ≤ V2.heap.size:=by rw [kK,bM,xA]; exact uc
   clear kK jD jN uL vK vh pn xW xA vW xF qM HTB HT1' HER3 HBW2
   obtain ⟨e0,e1,e2,e3,e4,e5,e6,e7,e8,e9,oD,e11,e12,e13⟩:=yF (U vp)
   have HE3:=Y ((U pW).alloc (Obj.cells #[H 3,H 0,H 0,H 0,H 0,H 0,H 0,yj 0,yk ⟨#[]⟩,H next,H o.id,H q,H o.ticks,H 0] 41))
   have pe:V2.heap.size + 1 ≤ (V2.alloc (Obj.cells #[H 3,H 0,H 0,H 0,H 0,H 0,H 0,yj 0,yk ⟨#[]⟩,H next,H o.id,H q,H o.ticks,H 0] 41)).heap.size:=Nat.le_of_eq (ze _ _).symm
   have qj:=ed V2 (Obj.cells #[H 3,H 0,H 0,H 0,H 0,H 0,H 0,yj 0,yk ⟨#[]⟩,H next,H o.id,H q,H o.ticks,H 0] 41)
   have uZ:Hid (∀ j u,[H 3,H 0,H 0,H 0,H 0,H 0,H 0,yj 0,yk ⟨#[]⟩,H next,H o.id,H q,H o.ticks,H 0][j]? = some u→(V2.alloc (Obj.cells #[H 3,H 0,H 0,H 0,H 0,H 0,H 0,yj 0,yk ⟨#[]⟩,H next,H o.id,H q,H o.ticks,H 0] 41)).cell? (((J V2.heap.size 0):Addr).add j) = some u):=fun j u hu=>bT V2 [H 3,H 0,H 0,H 0,H 0,H 0,H 0,yj 0,yk ⟨#[]⟩,H next,H o.id,H q,H o.ticks,H 0] 41 j u hu
   have oi:=Y (zk (U qL) qj)
   have HR3:=Y (zb (U oC) qj (by omega))
   have jq:=Y (zf (U HG4) qj (by omega))
   have ox:=Y (zf (U qW) qj (by omega))
   have km:=Y (eh (U un) qj)
   have HEBv:Hid (∀ g,u7.ownBlock = some g→w.heap.size + 1 + 1 ≤ g):=fun g hg=>(U jp g hg).1
   clear qj qL oC HG4 qW un jp
   go_wp2_with (at_builtin; go_must (refine wpList_append_own _ rfl _ _ 39 rfl (w.heap.size + 1 + 1) 41 i0 _ 14 120 Tryz.underlying39 uE uA uC uM rfl (by decide) u7 ts.length (ts.flatMap Ev.vs) rfl (U HE3) (J V2.heap.size 0) 1 1 [H 3,H 0,H 0,H 0,H 0,H 0,H 0,yj 0,yk ⟨#[]⟩,H next,H o.id,H q,H o.ticks,H 0] rfl rfl (U uZ) (by simp [Value.oneCell']) (by unfold maxLen; omega) (by omega) (by omega) ?_); intro v5 w5 vz ak _; have kD:=Y vz; have qW:=Y ak; clear vz ak)
   have HRO:=Y ((U oi).kept (U qW) (zA (U oi) (U HE3) (by decide)))
   have jB:Hid (∀ b,b < w.heap.size + 1 + 1→some b ≠ u7.ownBlock):=fun b L e=>by have:=U HEBv b e.symm; omega
   have pp:=Y (zq (U HR3) (U qW) (by omega) (U jB _ (by omega)))
   have HT5:=Y (zZ (U jq) (U qW) (by omega) (U jB _ (by omega)))
   have jh:=Y (zZ (U ox) (U qW) (by omega) (U jB _ (by omega)))
   have og:=Y ((U km).grown (U qW) (U km).size (fun k hk=>by have:=U HEBv k hk; omega))
   have hs6:=(U qW).size
   have kf:Hid (ERow w5 (w.heap.size + 1 + 1) v5 (ts ++ [trE next o.id q o.ticks])):=by
    show w5.ownsRow _ _ _ _ (ts ++ [trE next o.id q o.ticks]).length _
    rw [yP,List.flatMap_append]
    have:=U kD
    simpa [Ev.vs,trE,zCm] using this
   obtain ⟨x0,x1,x2,x3,x4,x5⟩:=yC (U pp)
   try simp only [Exit.inBlock,Exit.then]
   refine U xu _ _ ?_
   clear xu HE3 uZ oi HR3 jq ox km qW kD e0 e1 e2 e3 e4 e5 e6 e7 e8 e9 oD e11 e12 e13
   have kX:=(U HMI2).good
   have hln:=kX.len
   go_wp2_with fail
   refine (l04Next_any v2 (az l' i o q) ⟨next,cs,tt,left - q,cl,cg⟩ w5 (zK (U HRO) (by omega)) kX.rise (by omega) (U HS)).mono ?_
   rintro e w6 ⟨k6,rfl,hnx6,jj⟩
   have HN:Hid (MaI ⟨ck,cs,ct,cl,cq,ci,cp,cg⟩ next w (.slice a l.length A) l tt qt (2 * (az l' i o q).length + (if 0 < left - q then 1 else 0)) v2 v5 (H k6) w6) :=
    ⟨az l' i o q,left - q,ts ++ [trE next o.id q o.ticks],k6,rfl,.inr (bO (zk (U HRO) jj) (by omega)),zG (U kf) jj,hnx6,U HMI2,zb (U pp) jj (by omega),zf (U HT5) jj (by omega),zf (U jh) jj (by omega),(U og).trans (jj.mono (U og).size),by have:=jj.size; omega,Nat.le_refl _⟩
   clear hnx6 jj
   go_wp2_with fail
   go_roundg (2 * (az l' i o q).length + (if 0 < left - q then 1 else 0))
   case measure=>rw [if_pos h0] at hme; omega
   case rel=>exact U HN
end Go.Proofs.YtdliebbfcmdmaaaGreat
