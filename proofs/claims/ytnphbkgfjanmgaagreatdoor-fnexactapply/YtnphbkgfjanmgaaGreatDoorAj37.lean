/-
  A trade done, by the model: proved by walking the method.
-/
import Derived.Test.YtnphbkgfjanmgaaGreatDoorAj36
set_option linter.unusedVariables false
set_option maxHeartbeats 6400000
set_option maxRecDepth 100000
namespace Go.Proofs.YtnphbkgfjanmgaaGreatDoor
open Go.RowKit
structure R3 (C:Nat→Value→Prop) (cp:Nat) (ta ev:Value) (us:List Value) (B0:World) (cs:List Od) (x:List Bool) (f:Nat→Value) (W:World):Prop where
 c:∀ j,x[j]? = some true→C j (f j)
 bel:x[24]? = some false→Below B0.heap.size B0 W
 m17:x[17]? = some true→∃ v,f 17 = .tuple #[v,ta,ev]∧(x[24]? = some false→ORow W B0.heap.size v cs)
 m18:x[18]? = some true→f 18 = f 17
 m19:x[19]? = some true→f 17 = .tuple #[f 19,ta,ev]
 z:x[24]? = some true→∃ W0,(ORow W0 B0.heap.size (f 19) cs∧Below B0.heap.size B0 W0)∧(x[27]? = some false→W = W0.setCell ⟨cp,1,none⟩ (f 19))∧(x[27]? = some true→W = World.setCells (W0.setCell ⟨cp,1,none⟩ (f 19)) cp 2 us)
def R3A (xo:(Nat→Value)→Act) (C:Nat→Value→Prop) (cp:Nat) (ta ev:Value) (us:List Value) (B0:World) (cs:List Od) (x:List Bool) (gs:Act) (W:World):Prop:=∃ f,gs = xo f∧R3 C cp ta ev us B0 cs x f W
section
variable {C:Nat→Value→Prop} {cp:Nat} {ta ev:Value} {us:List Value} {B0 W W':World} {cs:List Od} {x:List Bool} {f:Nat→Value}
theorem r3_grow (h:R3 C cp ta ev us B0 cs x f W) (n:x[24]? = some false) (Q:yp W W'):R3 C cp ta ev us B0 cs x f W' :=
 ⟨h.c,fun _=>(h.bel n).trans (Q.mono (h.bel n).size),fun a=>by
  obtain ⟨v,N,Y⟩:=h.m17 a
  exact ⟨v,N,fun n=>zO (Y n) Q⟩,h.m18,h.m19,fun a=>by rw [n] at a; cases a⟩
theorem bP (h:R3 C cp ta ev us B0 cs x f W) (i:Nat) (v:Value) (hv:C i v) (hi:i ≠ 17∧i ≠ 18∧i ≠ 19∧i ≠ 24∧i ≠ 27):R3 C cp ta ev us B0 cs (x.set i true) (upd f i v) W:=by
 obtain ⟨N,h6,uU,uN,vW⟩:=hi
 refine ⟨zD h.c hv,?_,?_,?_,?_,?_⟩ <;> simp only [gq N,gq h6,gq uU,gq uN,gq vW,zk f v N.symm,zk f v h6.symm,zk f v uU.symm]
 ·exact h.bel
 ·exact h.m17
 ·exact h.m18
 ·exact h.m19
 ·exact h.z
theorem r3_17 (h:R3 C cp ta ev us B0 cs x f W) (n:x[24]? = some false) (n18:x[18]? = some false) (n19:x[19]? = some false) (hc:∀ v,C 17 v) {v:Value} (Z:ORow W' B0.heap.size v cs) (Q:yp W W'):R3 C cp ta ev us B0 cs (x.set 17 true) (upd f 17 (.tuple #[v,ta,ev])) W':=by
 have hg:=r3_grow h n Q
 refine ⟨zD hg.c (hc _),fun _=>hg.bel n,fun _=>⟨v,zt _ _ _,fun _=>Z⟩,?_,?_,?_⟩
 ·intro e; rw [gq (by decide),n18] at e; cases e
 ·intro e; rw [gq (by decide),n19] at e; cases e
 ·intro e; rw [gq (by decide),n] at e; cases e
theorem r3_18 (h:R3 C cp ta ev us B0 cs x f W) (hc:∀ v,C 18 v):R3 C cp ta ev us B0 cs (x.set 18 true) (upd f 18 (f 17)) W:=by
 refine ⟨zD h.c (hc _),?_,?_,fun _=>?_,?_,?_⟩
 ·rw [gq (by decide)]; exact h.bel
 ·rw [gq (by decide),gq (by decide),zk _ _ (by decide)]; exact h.m17
 ·rw [zt,zk _ _ (by decide)]
 ·rw [gq (by decide),zk _ _ (by decide),zk _ _ (by decide)]; exact h.m19
 ·rw [gq (by decide),gq (by decide),zk _ _ (by decide)]; exact h.z
theorem r3_19 (h:R3 C cp ta ev us B0 cs x f W) (n:x[24]? = some false) (hc:∀ v,C 19 v) {v:Value} (hv:f 17 = .tuple #[v,ta,ev]):R3 C cp ta ev us B0 cs (x.set 19 true) (upd f 19 v) W:=by
 refine ⟨zD h.c (hc _),?_,?_,?_,fun _=>?_,?_⟩
 ·rw [gq (by decide)]; exact h.bel
 ·rw [gq (by decide),gq (by decide),zk _ _ (by decide)]; exact h.m17
 ·rw [gq (by decide),zk _ _ (by decide),zk _ _ (by decide)]; exact h.m18
 ·rw [zt,zk _ _ (by decide)]; exact hv
 ·intro e; rw [gq (by decide),n] at e; cases e
theorem r3_row (h:R3 C cp ta ev us B0 cs x f W) (n:x[24]? = some false) (ji:x[17]? = some true) (h19:x[19]? = some true):ORow W B0.heap.size (f 19) cs:=by
 obtain ⟨v,N,Y⟩:=h.m17 ji
 have h3:=h.m19 h19
 rw [N] at h3
 simp only [Value.tuple.injEq,Array.mk.injEq,List.cons.injEq,and_true] at h3
 rw [← h3]
 exact Y n
theorem r3_24 (h:R3 C cp ta ev us B0 cs x f W) (n:x[24]? = some false) (n27:x[27]? = some false) (ji:x[17]? = some true) (h19:x[19]? = some true) (hc:∀ v,C 24 v):R3 C cp ta ev us B0 cs (x.set 24 true) f (W.setCell (D cp 1) (f 19)):=by
 refine ⟨fun j X=>?_,?_,fun _=>?_,?_,?_,fun _=>⟨W,⟨r3_row h n ji h19,h.bel n⟩,fun _=>rfl,fun e=>?_⟩⟩
 ·by_cases hjm:j = 24
  ·subst hjm; exact hc _
  ·rw [gq (fun e=>hjm e.symm)] at X; exact h.c j X
 ·intro e; rw [gqs n] at e; cases e
 ·obtain ⟨v,N,_⟩:=h.m17 ji
  exact ⟨v,N,fun e=>by rw [gqs n] at e; cases e⟩
 ·rw [gq (by decide)]; exact h.m18
 ·rw [gq (by decide)]; exact h.m19
 ·rw [gq (by decide),n27] at e; cases e
theorem r3_27 (h:R3 C cp ta ev us B0 cs x f W) (n27:x[27]? = some false) (h24:x[24]? = some true) (hc:∀ v,C 27 v):R3 C cp ta ev us B0 cs (x.set 27 true) f (World.setCells W cp 2 us):=by
 obtain ⟨W0,hA,N,_⟩:=h.z h24
 refine ⟨fun j X=>?_,?_,fun e=>?_,?_,?_,fun _=>⟨W0,hA,fun e=>?_,fun _=>?_⟩⟩
 ·by_cases hjm:j = 27
  ·subst hjm; exact hc _
  ·rw [gq (fun e=>hjm e.symm)] at X; exact h.c j X
 ·intro e; rw [gq (by decide),h24] at e; cases e
 ·rw [gq (by decide)] at e
  obtain ⟨v,N,_⟩:=h.m17 e
  exact ⟨v,N,fun e=>by rw [gq (by decide),h24] at e; cases e⟩
 ·rw [gq (by decide)]; exact h.m18
 ·rw [gq (by decide)]; exact h.m19
 ·rw [gqs n27] at e; cases e
 ·rw [N n27]
end
theorem take_3 {cp B:Nat} {vl vd va:Value} {g:Gr} {t:Od} {kd n0:Int} {dy l0:List Od} (ck L ct V cq ci:Int) (O:Nat) (cg:ByteArray) (id xj qty xk xi:Int) (w:World) (h:MS cp B w vl vd va g t kd n0 dy l0) (hi:GI g) (hm:MR g t kd dy) (he:okE ⟨3,⟨ck,L,ct,V,cq,ci,O,cg⟩,id,xj,qty,xk,xi⟩ = true) (hr:zG g ⟨3,⟨ck,L,ct,V,cq,ci,O,cg⟩,id,xj,qty,xk,xi⟩ = 0):Calls Tryz.prog 52 #[J cp 0,.agg (yw 3 ck L ct V cq ci O cg id xj qty xk xi).toArray] w fun x w'=>TakE cp B va n0 l0 g t kd dy ⟨3,⟨ck,L,ct,V,cq,ci,O,cg⟩,id,xj,qty,xk,xi⟩ w x w':=by
 have hsf:=sfl
 have hO:=h.lt
 have qe:=h.base
 have qM:Hid (∀ w' vY vk,Below B w w'→MS cp B w' vY vk va (br g ⟨3,⟨ck,L,ct,V,cq,ci,O,cg⟩,id,xj,qty,xk,xi⟩) (tkM g t ⟨3,⟨ck,L,ct,V,cq,ci,O,cg⟩,id,xj,qty,xk,xi⟩) (kdM kd ⟨3,⟨ck,L,ct,V,cq,ci,O,cg⟩,id,xj,qty,xk,xi⟩) n0 (dyM g dy ⟨3,⟨ck,L,ct,V,cq,ci,O,cg⟩,id,xj,qty,xk,xi⟩) l0→TakE cp B va n0 l0 g t kd dy ⟨3,⟨ck,L,ct,V,cq,ci,O,cg⟩,id,xj,qty,xk,xi⟩ w (.returned (.tuple #[])) w'):=fun w' vY vk N Y=>⟨rfl,N,vY,vk,Y⟩
 obtain ⟨N,jS,o,ku,-,uj,pw,hqt,-⟩:=rule3 (e:=⟨3,⟨ck,L,ct,V,cq,ci,O,cg⟩,id,xj,qty,xk,xi⟩) rfl hr
 simp only at uj pw hqt
 have oj:t = g.tk:=hm.same jS
 have kU:=hi.good (.inr jS)
 obtain ⟨k,vf⟩:∃ k:Nat,g.l[k]? = some o:=List.getElem?_of_mem (ec ku).1
 have uP:plc g.l xj = k:=by rw [pw]; exact dc kU.rise vf
 have uh:Hid (br g ⟨3,⟨ck,L,ct,V,cq,ci,O,cg⟩,id,xj,qty,xk,xi⟩ = { g with l:=(bu g.l k o qty),tk:={ g.tk with left:=g.tk.left - qty } }):=by show _ = _; rw [step3 rfl]; simp only [begG,dx uP vf]; rw [if_neg (by omega)]
 have uz:Hid (tkM g t ⟨3,⟨ck,L,ct,V,cq,ci,O,cg⟩,id,xj,qty,xk,xi⟩ = { t with left:=t.left - qty }∧kdM kd ⟨3,⟨ck,L,ct,V,cq,ci,O,cg⟩,id,xj,qty,xk,xi⟩ = kd∧dyM g dy ⟨3,⟨ck,L,ct,V,cq,ci,O,cg⟩,id,xj,qty,xk,xi⟩ = dy):=⟨rfl,rfl,rfl⟩
 have HQ:Hid (min t.left o.left = qty):=by show _ = _; rw [oj,hqt]
 have xA:g.l ≠ []:=by intro h; rw [h] at vf; simp at vf
 obtain ⟨gb,cap,rfl,ut,hBg,hgw⟩:=du h.row xA
 have jt:=hi.len
 have HIO:=H vf
 have hbo:=kU.left o (ec ku).1
 have HTL:Hid (0 ≤ t.left∧t.left ≤ 1000000∧0 ≤ o.left∧o.left ≤ 1000000):=by have:=hi.l0; have:=hi.l1; rw [oj]; exact ⟨by omega,by omega,by omega,by omega⟩
 have jC:=H uP
 have hbn:(g.bg != 0) = true:=by simp [N]
 have pU:Hid (g.bg ≠ 0):=by show _ ≠ _; omega
 have HLN:Hid ((bu g.l k o qty).length ≤ 1073741824):=by
  show _ ≤ _
  unfold bu
  split
  ·simp; omega
  ·simp; omega
 clear N jS ku uj pw hqt oj kU uP vf hbo
 generalize TakE cp B va n0 l0 g t kd dy ⟨3,⟨ck,L,ct,V,cq,ci,O,cg⟩,id,xj,qty,xk,xi⟩ w = C at qM ⊢
 obtain ⟨xC,HX⟩:=gw w (yw 3 ck L ct V cq ci O cg id xj qty xk xi) 52
 have HM:=H (zx h xC)
 have HB:=H (xC.mono qe)
 clear h xC hi hm he hr
 go_enter Tryz.func52,Tryz.ntmps52
 refine gv fun hR HK=>?_
 go_wp2_with fail
 refine U HK _ _ ?_
 clear HK
 generalize (w.alloc (A (yw 3 ck L ct V cq ci O cg id xj qty xk xi).toArray 52)) = W1 at HX HM HB ⊢
 have c9:=R (U HM).box 9 rfl
 have q9:=zd (U HM).box 9 (by show 9 < 13; decide)
 have xw:Hid (Below B w (World.setCells W1 cp 9 [.bool true])):=zN (U HB) yb (U HM) 9 _
 have xR:Hid (MS cp B (World.setCells W1 cp 9 [.bool true]) (.slice (some (D gb 0)) g.l.length cap) vd va g t kd n0 dy l0):=cE (U HM) 9 [.bool true] (by simp) (by simp [msV,hbn]) rfl (fun h=>absurd h (U pU))
 have xJ:Hid (Bx (World.setCells W1 cp 9 [.bool true]) w.heap.size (yw 3 ck L ct V cq ci O cg id xj qty xk xi)):=bx (U HX) (bY cp w.heap.size (by omega) _ 9 W1)
 clear HX HM HB hbn
 refine gv fun hR HK=>?_
 go_wp2_with fail
 refine U HK _ _ ?_
 clear HK
 change Code.wp _ _ _ _ (World.setCells W1 cp 9 [.bool true])
 generalize World.setCells W1 cp 9 [.bool true] = hj at xw xR xJ ⊢
 have uQ:Hid (RdR Od.vs 6 hj (.slice (some (D gb 0)) g.l.length cap) g.l):=zI (U xR).row (yO jt (by decide))
 have hSX:w.heap.size < hj.heap.size:=yL _ _ (R (U xJ) 0 rfl)
 have e0:=R (U xJ) 0 rfl
 clear c9 q9
 go_wp2_with fail
 refine zn (R3A (fun f=>{ tmps:=#[J cp 0,.agg (yw 3 ck L ct V cq ci O cg id xj qty xk xi).toArray,M,J w.heap.size 0,M,J cp 0,J cp 0,J cp 9,J w.heap.size 0,I 3,.bool false,.bool false,M,M,M,M,M,M,M,M,M,M,M,M,M,M,M,M,M,M,M,M,M,M,M,.bool true,.bool true,f 18,f 0,f 1,f 2,f 3,f 4,f 5,f 6,f 7,f 8,f 9,f 10,f 11,f 12,f 13,f 14,f 15,f 16,f 17,f 19,f 20,f 21,f 22,f 23,f 25,f 26,M,M,M,M,M,M,M,M,M,M,M,M,M,M,M,M,M,M,M,M,M,M,M,M,M,M,M,M,M,M,M,M,M,M,M,M,M,M,M,M,M,M,M,M,M,M,M,M,M,M,M,M,M,M,M,M,M,M,M,M,M,M,M,M,M,M,M,M,M,M,M,M,M,M,M,M,M,M,M,M,M,M,M,M,M,M,M,M,M,M,M,M,M,M,M,M,M,M,M,M,M,M,M,M,M,M,M,M,M,M,M,M,M,M,M,M,M,M,M,M,M,M],defers:=[] }) (fun j v=>∀ u,([some (J cp 0),some (J cp 0),some (J cp 0),some (J cp 0),some (J cp 1),some (.slice (some (D gb 0)) g.l.length cap),some (J cp 0),some (J cp 0),some (J cp 2),some (.agg (yx t.id t.side t.ticks t.left t.life t.tag).toArray),some (J cp 0),some (J cp 0),some (J cp 1),some (.slice (some (D gb 0)) g.l.length cap),some (J w.heap.size 10),some (I xj),some (I k),none,none,none,some (.agg (yx t.id t.side t.ticks (t.left - qty) t.life t.tag).toArray),some (.agg (Ev.vs (trE t.id o.id qty o.ticks)).toArray),some (J cp 0),some (J cp 1),none,some (J cp 0),some (J cp 2),none]:List (Option Value))[j]? = some (some u)→v = u) cp (.agg (yx t.id t.side t.ticks (t.left - qty) t.life t.tag).toArray) (.agg (Ev.vs (trE t.id o.id qty o.ticks)).toArray) (yx t.id t.side t.ticks (t.left - qty) t.life t.tag) hj (bu g.l k o qty)) (by kernel_rfl) ?_ ?_ ?_
 ·have vN:∀ j,(List.replicate 28 false)[j]? = some true→False:=fun j X=>by rw [yJ] at X; split at X <;> simp at X
  exact ⟨fun _=>M,rfl,⟨fun j X=>(vN j X).elim,fun _=>⟨rfl,rfl,rfl,Nat.le_refl _,fun _ _=>rfl⟩,fun h=>(vN _ h).elim,fun h=>(vN _ h).elim,fun h=>(vN _ h).elim,fun h=>(vN _ h).elim⟩⟩
 ·rintro x gs h2 ⟨f,rfl,K⟩ hx xO
  have xq:=cP xO hx (by kernel_rfl)
  obtain ⟨W0,⟨Z,xC⟩,-,eY⟩:=K.z (xq 24 (by simp))
  have eY:=eY (xq 27 (by simp))
  have qk:=H (zx (U xR) xC)
  have xH:=H ((U xw).trans (xC.mono (U xR).base))
  have vz:=H (zU Z (U xR).base)
  clear K xq xO hx xC Z
  dsimp only
  generalize f 0 = v0,f 1 = v1,f 2 = v2,f 3 = v3,f 4 = v4,f 5 = v5,f 6 = v6,f 7 = v7,f 8 = v8,f 9 = v9,f 10 = v10,f 11 = v11,f 12 = v12,f 13 = v13,f 14 = v14,f 15 = v15,f 16 = v16,f 17 = v17,f 18 = v18
  generalize f 19 = v19 at *
  generalize f 20 = v20,f 21 = v21,f 22 = v22,f 23 = v23,f 25 = v25,f 26 = v26
  have vB:Hid (MS cp B (W0.setCell (D cp 1) v19) v19 vd va { g with l:=(bu g.l k o qty) } t kd n0 dy l0):=ms_list (U qk) (U vz) (fun h=>absurd h (U pU))
  have uk:Hid (Below B w (W0.setCell (D cp 1) v19)):=zN (U xH) yb (U qk) 1 [v19]
  subst eY
  go_end0
  refine U qM _ v19 vd (zN (U uk) yb (U vB) 2 (yx t.id t.side t.ticks (t.left - qty) t.life t.tag)) ?_
  rw [U uh,(U uz).1,(U uz).2.1,(U uz).2.2]
  exact cE (U vB) 2 (yx t.id t.side t.ticks (t.left - qty) t.life t.tag) (by simp) rfl rfl (fun h=>absurd h (U pU))
 ·rintro x gs cl i op ⟨f,rfl,K⟩ F hx Z xt E
  have xu:=H K
  match i,Z with
  | 0,Z | 1,Z | 2,Z | 6,Z | 10,Z =>
   obtain rfl:=yc Z
   clear E K F
   rw [if_pos (by rfl)];unfold Oper.wp;go_simp
   exact ⟨upd f _ (J cp 0),by simp [upd],bP (U xu) _ _ (yj rfl) (by decide)⟩
  | 3,Z =>
   obtain rfl:=yc Z
   have g2:=K.c 2 (yf E 2 rfl) _ rfl
   clear E K F
   rw [if_pos (by rfl)];unfold Oper.wp;go_simp
   exact ⟨upd f 3 (J cp 0),by simp [upd,g2],bP (U xu) 3 _ (yj rfl) (by decide)⟩
  | 4,Z =>
   obtain rfl:=yc Z
   have g3:=K.c 3 (yf E 3 rfl) _ rfl
   clear E K F
   rw [if_pos (by rfl)];unfold Oper.wp;go_simp
   exact ⟨upd f 4 (J cp 1),by simp [upd,g3],bP (U xu) 4 _ (yj rfl) (by decide)⟩
  | 5,Z =>
   obtain rfl:=yc Z
   have g4:=K.c 4 (yf E 4 rfl) _ rfl
   have ph:x[24]? = some false:=zW F 28 5 24 (by kernel_rfl) hx (by simp) xt
   have kj:=H (zx (U xR) (K.bel ph))
   have z1:=R (U kj).box 1 rfl
   clear E K F
   rw [if_pos (by rfl)];unfold Oper.wp;go_simp
   exact ⟨upd f 5 (.slice (some (D gb 0)) g.l.length cap),by simp [upd,g4],bP (U xu) 5 _ (yj rfl) (by decide)⟩
  | 7,Z =>
   obtain rfl:=yc Z
   have g6:=K.c 6 (yf E 6 rfl) _ rfl
   clear E K F
   rw [if_pos (by rfl)];unfold Oper.wp;go_simp
   exact ⟨upd f 7 (J cp 0),by simp [upd,g6],bP (U xu) 7 _ (yj rfl) (by decide)⟩
  | 8,Z =>
   obtain rfl:=yc Z
   have g7:=K.c 7 (yf E 7 rfl) _ rfl
   clear E K F
   rw [if_pos (by rfl)];unfold Oper.wp;go_simp
   exact ⟨upd f 8 (J cp 2),by simp [upd,g7],bP (U xu) 8 _ (yj rfl) (by decide)⟩
  | 9,Z =>
   obtain rfl:=yc Z
   have g8:=K.c 8 (yf E 8 rfl) _ rfl
   have ph:x[24]? = some false:=zW F 28 9 24 (by kernel_rfl) hx (by simp) xt
   have kj:=H (zx (U xR) (K.bel ph))
   have z2:=R (U kj).box 2 rfl
   have z3:=R (U kj).box 3 rfl
   have z4:=R (U kj).box 4 rfl
   have z5:=R (U kj).box 5 rfl
   have z6:=R (U kj).box 6 rfl
   have z7:=R (U kj).box 7 rfl
   clear E K F
   rw [if_pos (by rfl)];unfold Oper.wp;go_simp
   exact ⟨upd f 9 (.agg (yx t.id t.side t.ticks t.left t.life t.tag).toArray),by simp [upd,g8],bP (U xu) 9 _ (yj rfl) (by decide)⟩
  | 11,Z =>
   obtain rfl:=yc Z
   have qy:=K.c 10 (yf E 10 rfl) _ rfl
   clear E K F
   rw [if_pos (by rfl)];unfold Oper.wp;go_simp
   exact ⟨upd f 11 (J cp 0),by simp [upd,qy],bP (U xu) 11 _ (yj rfl) (by decide)⟩
  | 12,Z =>
   obtain rfl:=yc Z
   have vI:=K.c 11 (yf E 11 rfl) _ rfl
   clear E K F
   rw [if_pos (by rfl)];unfold Oper.wp;go_simp
   exact ⟨upd f 12 (J cp 1),by simp [upd,vI],bP (U xu) 12 _ (yj rfl) (by decide)⟩
  | 13,Z =>
   obtain rfl:=yc Z
   have ua:=K.c 12 (yf E 12 rfl) _ rfl
   have ph:x[24]? = some false:=zW F 28 13 24 (by kernel_rfl) hx (by simp) xt
   have kj:=H (zx (U xR) (K.bel ph))
   have z1:=R (U kj).box 1 rfl
   clear E K F
   rw [if_pos (by rfl)];unfold Oper.wp;go_simp
   exact ⟨upd f 13 (.slice (some (D gb 0)) g.l.length cap),by simp [upd,ua],bP (U xu) 13 _ (yj rfl) (by decide)⟩
  | 14,Z =>
   obtain rfl:=yc Z
   clear E K F
   rw [if_pos (by rfl)];unfold Oper.wp;go_simp
   exact ⟨upd f 14 (J w.heap.size 10),by simp [upd],bP (U xu) 14 _ (yj rfl) (by decide)⟩
  | 15,Z =>
   obtain rfl:=yc Z
   have jo:=K.c 14 (yf E 14 rfl) _ rfl
   have ph:x[24]? = some false:=zW F 28 15 24 (by kernel_rfl) hx (by simp) xt
   have oq:=R (zf (U xJ) (K.bel ph) hSX) 10 rfl
   clear E K F
   rw [if_pos (by rfl)];unfold Oper.wp;go_simp
   exact ⟨upd f 15 (I xj),by simp [upd,jo],bP (U xu) 15 _ (yj rfl) (by decide)⟩
  | 16,Z =>
   obtain rfl:=yc Z
   have qP:=K.c 13 (yf E 13 rfl) _ rfl
   have g15:=K.c 15 (yf E 15 rfl) _ rfl
   have ph:x[24]? = some false:=zW F 28 16 24 (by kernel_rfl) hx (by simp) xt
   have qJ:=H (zi (U uQ) (K.bel ph) yb)
   clear E K F
   rw [if_pos (by rfl)];unfold Oper.wp;go_simp
   refine (dW _ g.l xj cl (U qJ)).mono ?_
   rw [U jC]
   rintro e w4 ⟨rfl,xy⟩
   exact ⟨upd f 16 (I k),by simp [upd,qP,g15],bP (r3_grow (U xu) ph xy) 16 _ (yj rfl) (by decide)⟩
  | 17,Z =>
   obtain rfl:=yc Z
   have ph:x[24]? = some false:=zW F 28 17 24 (by kernel_rfl) hx (by simp) xt
   have g5:=K.c 5 (yf E 5 rfl) _ rfl
   have g9:=K.c 9 (yf E 9 rfl) _ rfl
   have g16:=K.c 16 (yf E 16 rfl) _ rfl
   have k18:x[18]? = some false:=zW F 28 17 18 (by kernel_rfl) hx (by simp) xt
   have k19:x[19]? = some false:=zW F 28 17 19 (by kernel_rfl) hx (by simp) xt
   have vo:=K.bel ph
   have qJ:=H (zi (U uQ) vo yb)
   have HSV:=H vo.size
   obtain ⟨a0,a1,a2,a3⟩:=U HTL
   have HHT:=H (l04Hit_any _ g.l t o k cl (U qJ) (yO jt (by decide)) (U HIO) a0 a1 a2 a3)
   rw [U HQ] at HHT
   clear E K F vo a0 a1 a2 a3
   rw [if_pos (by rfl)];unfold Oper.wp;go_simp
   refine (U HHT).mono ?_
   rintro e w4 ⟨v9,rfl,oe,xy⟩
   exact ⟨upd f 17 (.tuple #[v9,.agg (yx t.id t.side t.ticks (t.left - qty) t.life t.tag).toArray,.agg (Ev.vs (trE t.id o.id qty o.ticks)).toArray]),by simp [upd,g5,g9,g16,Od.vs],r3_17 (U xu) ph k18 k19 (fun v u hu=>by cases hu) (zU oe (U HSV)) xy⟩
  | 18,Z =>
   obtain rfl:=yc Z
   clear E K F
   rw [if_pos (by rfl)];unfold Oper.wp;go_simp
   exact ⟨upd f 18 (f 17),by simp [upd],r3_18 (U xu) (fun v u hu=>by cases hu)⟩
  | 19,Z =>
   obtain rfl:=yc Z
   have ph:x[24]? = some false:=zW F 28 19 24 (by kernel_rfl) hx (by simp) xt
   have pC:x[17]? = some true:=yh F 18 rfl (yf E 18 rfl) 17 rfl
   obtain ⟨v9,e9,-⟩:=K.m17 pC
   have g18:f 18 = .tuple #[v9,.agg (yx t.id t.side t.ticks (t.left - qty) t.life t.tag).toArray,.agg (Ev.vs (trE t.id o.id qty o.ticks)).toArray]:=(K.m18 (yf E 18 rfl)).trans e9
   clear E K F
   rw [if_pos (by rfl)];unfold Oper.wp;go_simp
   exact ⟨upd f 19 (v9),by simp [upd,g18,e9],r3_19 (U xu) ph (fun v u hu=>by cases hu) e9⟩
  | 20,Z =>
   obtain rfl:=yc Z
   have pC:x[17]? = some true:=yh F 18 rfl (yf E 18 rfl) 17 rfl
   obtain ⟨v9,e9,-⟩:=K.m17 pC
   have g18:f 18 = .tuple #[v9,.agg (yx t.id t.side t.ticks (t.left - qty) t.life t.tag).toArray,.agg (Ev.vs (trE t.id o.id qty o.ticks)).toArray]:=(K.m18 (yf E 18 rfl)).trans e9
   clear E K F
   rw [if_pos (by rfl)];unfold Oper.wp;go_simp
   exact ⟨upd f 20 (.agg (yx t.id t.side t.ticks (t.left - qty) t.life t.tag).toArray),by simp [upd,g18,e9],bP (U xu) 20 _ (yj rfl) (by decide)⟩
  | 21,Z =>
   obtain rfl:=yc Z
   have pC:x[17]? = some true:=yh F 18 rfl (yf E 18 rfl) 17 rfl
   obtain ⟨v9,e9,-⟩:=K.m17 pC
   have g18:f 18 = .tuple #[v9,.agg (yx t.id t.side t.ticks (t.left - qty) t.life t.tag).toArray,.agg (Ev.vs (trE t.id o.id qty o.ticks)).toArray]:=(K.m18 (yf E 18 rfl)).trans e9
   clear E K F
   rw [if_pos (by rfl)];unfold Oper.wp;go_simp
   exact ⟨upd f 21 (.agg (Ev.vs (trE t.id o.id qty o.ticks)).toArray),by simp [upd,g18,e9],bP (U xu) 21 _ (yj rfl) (by decide)⟩
  | 22,Z =>
   obtain rfl:=yc Z
   have g0:=K.c 0 (yf E 0 rfl) _ rfl
   clear E K F
   rw [if_pos (by rfl)];unfold Oper.wp;go_simp
   exact ⟨upd f 22 (J cp 0),by simp [upd,g0],bP (U xu) 22 _ (yj rfl) (by decide)⟩
  | 23,Z =>
   obtain rfl:=yc Z
   have g22:=K.c 22 (yf E 22 rfl) _ rfl
   clear E K F
   rw [if_pos (by rfl)];unfold Oper.wp;go_simp
   exact ⟨upd f 23 (J cp 1),by simp [upd,g22],bP (U xu) 23 _ (yj rfl) (by decide)⟩
  | 24,Z =>
   obtain rfl:=yc Z
   have g23:=K.c 23 (yf E 23 rfl) _ rfl
   have k19:x[19]? = some true:=E ⟨19,.data⟩ (by simp) rfl
   have pC:x[17]? = some true:=F 18 _ rfl (yh F 19 rfl k19 18 rfl) ⟨17,.data⟩ (by simp) rfl
   have k27:x[27]? = some false:=zW F 28 24 27 (by kernel_rfl) hx (by simp) xt
   have vK:=H (zx (U xR) (K.bel xt))
   have y1:=R (U vK).box 1 rfl
   have q1:=zd (U vK).box 1 (by show 1 < 13; decide)
   obtain ⟨ga,gc,g19⟩:=cA (zI (r3_row K xt pC k19) (U HLN))
   generalize (bu g.l k o qty).length = gn at g19
   clear E K F
   rw [if_pos (by rfl)];unfold Oper.wp;go_simp
   refine ⟨f,by simp [g23,g19],?_⟩
   have:=r3_24 (U xu) xt k27 pC k19 (fun v u hu=>by cases hu)
   rw [g19] at this
   exact this
  | 25,Z =>
   obtain rfl:=yc Z
   have g1:=K.c 1 (yf E 1 rfl) _ rfl
   clear E K F
   rw [if_pos (by rfl)];unfold Oper.wp;go_simp
   exact ⟨upd f 25 (J cp 0),by simp [upd,g1],bP (U xu) 25 _ (yj rfl) (by decide)⟩
  | 26,Z =>
   obtain rfl:=yc Z
   have g25:=K.c 25 (yf E 25 rfl) _ rfl
   clear E K F
   rw [if_pos (by rfl)];unfold Oper.wp;go_simp
   exact ⟨upd f 26 (J cp 2),by simp [upd,g25],bP (U xu) 26 _ (yj rfl) (by decide)⟩
  | 27,Z =>
   obtain rfl:=yc Z
   have g26:=K.c 26 (yf E 26 rfl) _ rfl
   have g20:=K.c 20 (yf E 20 rfl) _ rfl
   have ph:x[24]? = some true:=E ⟨24,.chain⟩ (by simp) rfl
   obtain ⟨W0,⟨oe,oX⟩,eV,-⟩:=K.z ph
   have eV:=eV xt
   have vK:Hid (MS cp B cl (f 19) vd va { g with l:=(bu g.l k o qty) } t kd n0 dy l0):=by
    show MS cp B cl (f 19) vd va { g with l:=(bu g.l k o qty) } t kd n0 dy l0
    rw [eV]
    exact ms_list (zx (U xR) oX) (zU oe (U xR).base) (fun h=>absurd h (U pU))
   have c2:=R (U vK).box 2 rfl
   have q2:=zd (U vK).box 2 (by show 2 < 13; decide)
   have c3:=R (U vK).box 3 rfl
   have q3:=zd (U vK).box 3 (by show 3 < 13; decide)
   have c4:=R (U vK).box 4 rfl
   have q4:=zd (U vK).box 4 (by show 4 < 13; decide)
   have c5:=R (U vK).box 5 rfl
   have q5:=zd (U vK).box 5 (by show 5 < 13; decide)
   have c6:=R (U vK).box 6 rfl
   have q6:=zd (U vK).box 6 (by show 6 < 13; decide)
   have c7:=R (U vK).box 7 rfl
   have q7:=zd (U vK).box 7 (by show 7 < 13; decide)
   clear E K F eV oe oX
   rw [if_pos (by rfl)];unfold Oper.wp;go_simp
   exact ⟨f,by simp [g26,g20],r3_27 (U xu) xt ph (fun v u hu=>by cases hu)⟩
  | i + 28,Z=>simp at Z
theorem rd_tail {W:World} {db qO kO:Nat} {o:Od} {dr:List Od} (h:RdR Od.vs 6 W (.slice (some (D db qO)) (o :: dr).length kO) (o :: dr)) (hcp:(o :: dr).length ≤ kO):RdR Od.vs 6 W (.slice (some (D db (qO + 6))) dr.length (kO - 1)) dr∧(kO - 1 = 0→RdR Od.vs 6 W (.slice (some (D db qO)) dr.length 0) dr):=by
 obtain ⟨a,cap,e,hl,hc⟩:=h
 simp only [Value.slice.injEq,true_and] at e
 obtain ⟨rfl,rfl⟩:=e
 simp only [List.length_cons] at hl hcp
 refine ⟨⟨_,_,rfl,by omega,fun xA=>?_⟩,fun h0=>⟨_,_,rfl,by omega,fun xA=>?_⟩⟩
 ·obtain ⟨b,off,e2,Q,F⟩:=hc (by simp)
  simp only [Option.some.injEq,Addr.mk.injEq,and_true] at e2
  obtain ⟨rfl,rfl⟩:=e2
  refine ⟨_,_,rfl,Q,fun j c X i u hi=>?_⟩
  have:=F (j + 1) c (by simpa using X) i u hi
  rw [show qO + (j + 1) * 6 + i = qO + 6 + j * 6 + i by omega] at this
  exact this
 ·exfalso
  cases dr with
  | nil=>exact xA rfl
  | cons a b=>simp only [List.length_cons] at hcp; omega
theorem ms_days {cp B:Nat} {W:World} {vl vd vk va:Value} {g:Gr} {t:Od} {kd n0:Int} {dy dy' l0:List Od} (h:MS cp B W vl vd va g t kd n0 dy l0) (hd:RdR Od.vs 6 W vk dy') (hn:dy' ≠ []→∀ b off n c,vk = .slice (some (D b off)) n c→b ≠ cp∧n ≤ c) (hq:g.bg ≠ 0):MS cp B (W.setCell (D cp 10) vk) vl vk va g t kd n0 dy' l0 :=
 ⟨bH h.box (by show 10 < 13; decide),dR h.nl [vk] 10 W h.row,dQ (us:=[vk]) (o:=10) hd (fun xA b off n c e=>(hn xA b off n c e).1),dQ (us:=[vk]) (o:=10) h.ahd (fun xA b' off n c e=>by have:=h.na xA b' off n c e; have:=h.hO; omega),h.sla,eB [vk] 10 W h.typ,h.hO,fun h=>absurd h hq,hn,h.na⟩
theorem take_9 {cp B:Nat} {vl vd va:Value} {g:Gr} {t:Od} {kd n0:Int} {dy l0:List Od} (ck L ct V cq ci:Int) (O:Nat) (cg:ByteArray) (id xj qty xk xi:Int) (w:World) (h:MS cp B w vl vd va g t kd n0 dy l0) (hi:GI g) (hm:MR g t kd dy) (he:okE ⟨9,⟨ck,L,ct,V,cq,ci,O,cg⟩,id,xj,qty,xk,xi⟩ = true) (hr:zG g ⟨9,⟨ck,L,ct,V,cq,ci,O,cg⟩,id,xj,qty,xk,xi⟩ = 0):Calls Tryz.prog 52 #[J cp 0,.agg (yw 9 ck L ct V cq ci O cg id xj qty xk xi).toArray] w fun x w'=>TakE cp B va n0 l0 g t kd dy ⟨9,⟨ck,L,ct,V,cq,ci,O,cg⟩,id,xj,qty,xk,xi⟩ w x w':=by
 have hsf:=sfl
 have hO:=h.lt
 have qe:=h.base
 have qM:Hid (∀ w' vY vk,Below B w w'→MS cp B w' vY vk va (br g ⟨9,⟨ck,L,ct,V,cq,ci,O,cg⟩,id,xj,qty,xk,xi⟩) (tkM g t ⟨9,⟨ck,L,ct,V,cq,ci,O,cg⟩,id,xj,qty,xk,xi⟩) (kdM kd ⟨9,⟨ck,L,ct,V,cq,ci,O,cg⟩,id,xj,qty,xk,xi⟩) n0 (dyM g dy ⟨9,⟨ck,L,ct,V,cq,ci,O,cg⟩,id,xj,qty,xk,xi⟩) l0→TakE cp B va n0 l0 g t kd dy ⟨9,⟨ck,L,ct,V,cq,ci,O,cg⟩,id,xj,qty,xk,xi⟩ w (.returned (.tuple #[])) w'):=fun w' vY vk N Y=>⟨rfl,N,vY,vk,Y⟩
 obtain ⟨h8,o,hf,hd,uj,hqo⟩:=rule9 (e:=⟨9,⟨ck,L,ct,V,cq,ci,O,cg⟩,id,xj,qty,xk,xi⟩) rfl hr
 simp only at uj hqo
 have kU:=hi.good (.inl (by omega))
 obtain ⟨k,vf⟩:=find_at hf
 have uP:plc g.l id = k:=by rw [uj]; exact dc kU.rise vf
 have hpo:plc g.l o.id = k:=dc kU.rise vf
 have uh:Hid (br g ⟨9,⟨ck,L,ct,V,cq,ci,O,cg⟩,id,xj,qty,xk,xi⟩ = { g with l:=g.l.take k ++ g.l.drop (k + 1) }):=by show _ = _; rw [step9 rfl,hd]; simp only [begG,dx hpo vf]; rw [if_neg (by omega),bu,if_pos rfl]
 obtain ⟨dr,hdy⟩:∃ dr,dy = o :: dr:=by
  rw [hm.dy,if_pos h8]
  rw [← List.head?_filter] at hf
  cases hc:g.l.filter isDy with
  | nil=>rw [hc] at hf; simp at hf
  | cons a b=>rw [hc] at hf; simp at hf; subst hf; exact ⟨b,rfl⟩
 subst hdy
 have uz:Hid (tkM g t ⟨9,⟨ck,L,ct,V,cq,ci,O,cg⟩,id,xj,qty,xk,xi⟩ = t∧kdM kd ⟨9,⟨ck,L,ct,V,cq,ci,O,cg⟩,id,xj,qty,xk,xi⟩ = kd∧dyM g (o :: dr) ⟨9,⟨ck,L,ct,V,cq,ci,O,cg⟩,id,xj,qty,xk,xi⟩ = dr):=⟨rfl,rfl,rfl⟩
 have xA:g.l ≠ []:=by intro h; rw [h] at vf; simp at vf
 have pt:=(yH.1 vf).1
 obtain ⟨gb,cap,rfl,ut,hBg,hgw⟩:=du h.row xA
 obtain ⟨da,kO,rfl,ba,hdc⟩:=h.days
 obtain ⟨db,qO,rfl,hdb,hdcl⟩:=hdc (by simp)
 have jt:=hi.len
 have jC:=H uP
 have hbn:(g.bg != 0) = true:=by simp [h8]
 have pU:Hid (g.bg ≠ 0):=by show _ ≠ _; omega
 have hdl1:(o :: dr).length = dr.length + 1:=rfl
 clear h8 uP hpo vf hqo uj hf hd kU hdc hdcl
 generalize TakE cp B va n0 l0 g t kd (o :: dr) ⟨9,⟨ck,L,ct,V,cq,ci,O,cg⟩,id,xj,qty,xk,xi⟩ w = C at qM ⊢
 obtain ⟨xC,HX⟩:=gw w (yw 9 ck L ct V cq ci O cg id xj qty xk xi) 52
 have HM:=H (zx h xC)
 have HB:=H (xC.mono qe)
 clear h xC hi hm he hr
 go_enter Tryz.func52,Tryz.ntmps52
 refine gv fun hR HK=>?_
 go_wp2_with fail
 refine U HK _ _ ?_
 clear HK
 generalize (w.alloc (A (yw 9 ck L ct V cq ci O cg id xj qty xk xi).toArray 52)) = W1 at HX HM HB ⊢
 have c9:=R (U HM).box 9 rfl
 have q9:=zd (U HM).box 9 (by show 9 < 13; decide)
 have xw:Hid (Below B w (World.setCells W1 cp 9 [.bool true])):=zN (U HB) yb (U HM) 9 _
 have xR:Hid (MS cp B (World.setCells W1 cp 9 [.bool true]) (.slice (some (D gb 0)) g.l.length cap) (.slice (some (D db qO)) (o :: dr).length kO) va g t kd n0 (o :: dr) l0):=cE (U HM) 9 [.bool true] (by simp) (by simp [msV,hbn]) rfl (fun h=>absurd h (U pU))
 have xJ:Hid (Bx (World.setCells W1 cp 9 [.bool true]) w.heap.size (yw 9 ck L ct V cq ci O cg id xj qty xk xi)):=bx (U HX) (bY cp w.heap.size (by omega) _ 9 W1)
 clear HX HM HB hbn
 refine gv fun hR HK=>?_
 go_wp2_with fail
 refine U HK _ _ ?_
 clear HK
 change Code.wp _ _ _ _ (World.setCells W1 cp 9 [.bool true])
 generalize World.setCells W1 cp 9 [.bool true] = X0 at xw xR xJ ⊢
 have HON:=H ((U xR).ndc (by simp) db qO _ _ rfl)
 have HDT:=H (rd_tail (U xR).days (U HON).2)
 have e0:=R (U xJ) 0 rfl
 have c10:=R (U xR).box 10 rfl
 have q10:=zd (U xR).box 10 (by show 10 < 13; decide)
 rw [hdl1] at c10
 clear c9 q9
 go_wp2_with fail
 have HV:Hid (RdR Od.vs 6 X0 (.slice (some (D db qO)) dr.length 0) dr∧(dr ≠ []→∀ b off n c,((.slice (some (D db qO)) dr.length 0):Value) = .slice (some (D b off)) n c→b ≠ cp∧n ≤ c)):=⟨(U HDT).2 (by omega),fun _ b off n c e=>by simp only [Value.slice.injEq,Option.some.injEq,Addr.mk.injEq,and_true] at e; obtain ⟨⟨rfl,rfl⟩,rfl,rfl⟩:=e; have:=U HON; rw [hdl1] at this; exact ⟨this.1,by omega⟩⟩
 generalize ((.slice (some (D db qO)) dr.length 0):Value) = vk at HV ⊢
 generalize Value.slice (some (D db qO)) (dr.length + 1) 1 = v166
 rotate_left
 have HV:Hid (RdR Od.vs 6 X0 (.slice (some (D db (qO + 6))) dr.length (kO - 1)) dr∧(dr ≠ []→∀ b off n c,((.slice (some (D db (qO + 6))) dr.length (kO - 1)):Value) = .slice (some (D b off)) n c→b ≠ cp∧n ≤ c)):=⟨(U HDT).1,fun _ b off n c e=>by simp only [Value.slice.injEq,Option.some.injEq,Addr.mk.injEq,and_true] at e; obtain ⟨⟨rfl,rfl⟩,rfl,rfl⟩:=e; have:=U HON; rw [hdl1] at this; exact ⟨this.1,by omega⟩⟩
 generalize ((.slice (some (D db (qO + 6))) dr.length (kO - 1)):Value) = vk at HV ⊢
 generalize hv6:Value.slice (some (D db qO)) (dr.length + 1) kO = v166 at ⊢
 clear hv6
 all_goals clear h HDT HON
 all_goals
  have HM3:=H (ms_days (U xR) (U HV).1 (U HV).2 (U pU))
  have xN:Hid (Below B w (X0.setCell (D cp 10) vk)):=zN (U xw) yb (U xR) 10 [vk]
  have uS:Hid (Bx (X0.setCell (D cp 10) vk) w.heap.size (yw 9 ck L ct V cq ci O cg id xj qty xk xi)):=bx (U xJ) (bY cp w.heap.size (by omega) [vk] 10 X0)
  clear xR xw xJ HV
  change Code.wp _ _ _ _ (X0.setCell (D cp 10) vk)
  generalize X0.setCell (D cp 10) vk = hj at HM3 xN uS ⊢
  have xR:=HM3
  have xw:=xN
  have xJ:=uS
  clear HM3 xN uS c10 q10 e0
  have uQ:Hid (RdR Od.vs 6 hj (.slice (some (D gb 0)) g.l.length cap) g.l):=zI (U xR).row (yO jt (by decide))
  refine zn (RAA (fun f=>{ tmps:=#[J cp 0,.agg (yw 9 ck L ct V cq ci O cg id xj qty xk xi).toArray,M,J w.heap.size 0,M,J cp 0,J cp 0,J cp 9,J w.heap.size 0,I 9,.bool false,.bool false,M,M,M,M,M,M,M,M,M,M,M,M,M,M,M,M,M,M,M,M,M,M,M,.bool false,.bool false,M,M,M,M,M,M,M,M,M,M,M,M,M,M,M,M,M,M,M,M,M,M,M,M,M,M,.bool false,.bool false,M,M,M,M,M,M,M,M,M,M,M,M,M,M,M,M,M,M,M,.bool false,.bool false,M,M,M,M,.bool false,.bool false,M,M,M,M,M,M,M,M,M,M,M,M,M,M,M,.bool false,.bool false,M,M,M,M,M,M,M,M,M,M,M,M,M,M,M,.bool false,.bool false,M,M,M,M,M,M,M,M,M,M,M,M,M,M,M,M,M,M,M,M,M,M,M,M,M,M,M,M,M,M,M,M,M,M,.bool true,.bool true,J cp 0,J cp 0,J cp 0,J cp 10,v166,vk,J cp 0,J cp 10,f 0,f 1,f 2,f 3,f 4,f 5,f 6,f 7,f 8,f 9,f 10,f 11,f 12,f 13,f 14],defers:=[] }) (fun j v=>∀ u,([some (J cp 0),some (J cp 0),some (J cp 0),some (J cp 1),some (.slice (some (D gb 0)) g.l.length cap),some (J cp 0),some (J cp 0),some (J cp 1),some (.slice (some (D gb 0)) g.l.length cap),some (J w.heap.size 9),some (I id),some (I k),none,some (J cp 0),some (J cp 1),none]:List (Option Value))[j]? = some (some u)→v = u) 12 15 (D cp 1) (fun W v=>ORow W hj.heap.size v (g.l.take k ++ g.l.drop (k + 1))∧yp hj W) hj) (by kernel_rfl) ?_ ?_ ?_
  ·exact ⟨fun _=>M,rfl,⟨fun j X=>by rw [yJ] at X; split at X <;> simp at X,fun _=>⟨rfl,rfl,rfl,Nat.le_refl _,fun _ _=>rfl⟩,fun X=>by rw [yJ] at X; split at X <;> simp at X,fun X=>by rw [yJ] at X; split at X <;> simp at X⟩⟩
  ·rintro x gs h2 ⟨f,rfl,K⟩ hx xO
   have xq:=zP xO hx (acyc _ (by kernel_rfl))
   obtain ⟨W0,⟨Z,xC⟩,eY⟩:=K.z (xq 15 (by simp))
   have qk:=H (zx (U xR) xC)
   have xH:=H ((U xw).trans (xC.mono (U xR).base))
   have vz:=H (zU Z (U xR).base)
   clear K xq xO hx xC Z
   dsimp only
   generalize f 0 = v0,f 1 = v1,f 2 = v2,f 3 = v3,f 4 = v4,f 5 = v5,f 6 = v6,f 7 = v7,f 8 = v8,f 9 = v9,f 10 = v10,f 11 = v11
   generalize f 12 = v12 at *
   generalize f 13 = v13,f 14 = v14
   subst eY
   go_end0
   refine U qM _ v12 vk (zN (U xH) yb (U qk) 1 [v12]) ?_
   rw [U uh,(U uz).1,(U uz).2.1,(U uz).2.2]
   exact ms_list (U qk) (U vz) (fun h=>absurd h (U pU))
  ·rintro x gs cl i op ⟨f,rfl,K⟩ F hx Z xt E
   have xu:=H K
   have vw:i < 13→i ≠ 0→x[12]? = some false:=fun xI h0=>by
    rcases bS hx (show 12 < 16 by omega) with hq | uN
    ·exact hq
    ·exfalso
     have h4:=yh F 12 rfl uN 4 rfl
     have uU:=yh F 12 rfl uN 11 rfl
     have h3:=yh F 4 rfl h4 3 rfl
     have Y:=yh F 3 rfl h3 2 rfl
     have N:=yh F 2 rfl Y 1 rfl
     have h8:=yh F 11 rfl uU 8 rfl
     have uY:=yh F 11 rfl uU 10 rfl
     have h7:=yh F 8 rfl h8 7 rfl
     have h6:=yh F 7 rfl h7 6 rfl
     have h5:=yh F 6 rfl h6 5 rfl
     have h9:=yh F 10 rfl uY 9 rfl
     rcases (by omega:i = 1 ∨ i = 2 ∨ i = 3 ∨ i = 4 ∨ i = 5 ∨ i = 6 ∨ i = 7 ∨ i = 8 ∨ i = 9 ∨ i = 10 ∨ i = 11 ∨ i = 12) with rfl | rfl | rfl | rfl | rfl | rfl | rfl | rfl | rfl | rfl | rfl | rfl
     ·exact absurd (N.symm.trans xt) (by simp)
     ·exact absurd (Y.symm.trans xt) (by simp)
     ·exact absurd (h3.symm.trans xt) (by simp)
     ·exact absurd (h4.symm.trans xt) (by simp)
     ·exact absurd (h5.symm.trans xt) (by simp)
     ·exact absurd (h6.symm.trans xt) (by simp)
     ·exact absurd (h7.symm.trans xt) (by simp)
     ·exact absurd (h8.symm.trans xt) (by simp)
     ·exact absurd (h9.symm.trans xt) (by simp)
     ·exact absurd (uY.symm.trans xt) (by simp)
     ·exact absurd (uU.symm.trans xt) (by simp)
     ·exact absurd (uN.symm.trans xt) (by simp)
   have n15:x[12]? = some false→x[15]? = some false:=fun uN=>by
    rcases bS hx (show 15 < 16 by omega) with hq | vW
    ·exact hq
    ·exact absurd ((yh F 15 rfl vW 12 rfl).symm.trans uN) (by simp)
   have xm:i < 13→i ≠ 0→∀ (p:Addr) u,hj.cell? p = some u→cl.cell? p = some u:=fun h h0 p u hu=>((K.b (vw h h0)).cell (yL hj _ hu)).trans hu
   match i,Z with
   | 0,Z | 1,Z | 5,Z =>
    obtain rfl:=yc Z
    clear E K xm vw n15
    rw [if_pos (by rfl)];unfold Oper.wp;go_simp
    exact ⟨upd f _ (J cp 0),by simp [upd],bw (U xu) _ _ (yj rfl) (by decide) (by decide)⟩
   | 2,Z =>
    obtain rfl:=yc Z
    have g1:=K.c 1 (yf E 1 rfl) _ rfl
    clear E K xm vw n15
    rw [if_pos (by rfl)];unfold Oper.wp;go_simp
    exact ⟨upd f 2 (J cp 0),by simp [upd,g1],bw (U xu) 2 _ (yj rfl) (by decide) (by decide)⟩
   | 3,Z =>
    obtain rfl:=yc Z
    have g2:=K.c 2 (yf E 2 rfl) _ rfl
    clear E K xm vw n15
    rw [if_pos (by rfl)];unfold Oper.wp;go_simp
    exact ⟨upd f 3 (J cp 1),by simp [upd,g2],bw (U xu) 3 _ (yj rfl) (by decide) (by decide)⟩
   | 4,Z =>
    obtain rfl:=yc Z
    have g3:=K.c 3 (yf E 3 rfl) _ rfl
    have z:=xm (by omega) (by omega) (D cp 1) _ (R (U xR).box 1 rfl)
    clear E K xm vw n15
    rw [if_pos (by rfl)];unfold Oper.wp;go_simp
    exact ⟨upd f 4 (.slice (some (D gb 0)) g.l.length cap),by simp [upd,g3],bw (U xu) 4 _ (yj rfl) (by decide) (by decide)⟩
   | 6,Z =>
    obtain rfl:=yc Z
    have g5:=K.c 5 (yf E 5 rfl) _ rfl
    clear E K xm vw n15
    rw [if_pos (by rfl)];unfold Oper.wp;go_simp
    exact ⟨upd f 6 (J cp 0),by simp [upd,g5],bw (U xu) 6 _ (yj rfl) (by decide) (by decide)⟩
   | 7,Z =>
    obtain rfl:=yc Z
    have g6:=K.c 6 (yf E 6 rfl) _ rfl
    clear E K xm vw n15
    rw [if_pos (by rfl)];unfold Oper.wp;go_simp
    exact ⟨upd f 7 (J cp 1),by simp [upd,g6],bw (U xu) 7 _ (yj rfl) (by decide) (by decide)⟩
   | 8,Z =>
    obtain rfl:=yc Z
    have g7:=K.c 7 (yf E 7 rfl) _ rfl
    have z:=xm (by omega) (by omega) (D cp 1) _ (R (U xR).box 1 rfl)
    clear E K xm vw n15
    rw [if_pos (by rfl)];unfold Oper.wp;go_simp
    exact ⟨upd f 8 (.slice (some (D gb 0)) g.l.length cap),by simp [upd,g7],bw (U xu) 8 _ (yj rfl) (by decide) (by decide)⟩
   | 9,Z =>
    obtain rfl:=yc Z
    clear E K xm vw n15
    rw [if_pos (by rfl)];unfold Oper.wp;go_simp
    exact ⟨upd f 9 (J w.heap.size 9),by simp [upd],bw (U xu) 9 _ (yj rfl) (by decide) (by decide)⟩
   | 10,Z =>
    obtain rfl:=yc Z
    have g9:=K.c 9 (yf E 9 rfl) _ rfl
    have z:=xm (by omega) (by omega) (D w.heap.size 9) _ (R (U xJ) 9 rfl)
    clear E K xm vw n15
    rw [if_pos (by rfl)];unfold Oper.wp;go_simp
    exact ⟨upd f 10 (I id),by simp [upd,g9],bw (U xu) 10 _ (yj rfl) (by decide) (by decide)⟩
   | 11,Z =>
    obtain rfl:=yc Z
    have g8:=K.c 8 (yf E 8 rfl) _ rfl
    have qy:=K.c 10 (yf E 10 rfl) _ rfl
    have kC:=vw (by omega) (by omega)
    have qG:=n15 kC
    have qJ:=H (zi (U uQ) (K.b kC) yb)
    clear E K xm vw n15
    rw [if_pos (by rfl)];unfold Oper.wp;go_simp
    refine (dW _ g.l id cl (U qJ)).mono ?_
    rw [U jC]
    rintro e w4 ⟨rfl,xy⟩
    exact ⟨upd f 11 (I k),by simp [upd,g8,qy],bw (ra_grow (U xu) kC qG xy) 11 _ (yj rfl) (by decide) (by decide)⟩
   | 12,Z =>
    obtain rfl:=yc Z
    have g4:=K.c 4 (yf E 4 rfl) _ rfl
    have vI:=K.c 11 (yf E 11 rfl) _ rfl
    have qG:=n15 xt
    have vo:=K.b xt
    have qJ:=H (zi (U uQ) vo yb)
    have xE:=H vo
    clear E K xm vw n15 vo
    rw [if_pos (by rfl)];unfold Oper.wp;go_simp
    obtain ⟨a9,c9,e9,-,aY⟩:=U qJ
    obtain ⟨b9,o9,uR,oX,hcl9⟩:=aY xA
    rw [uR] at e9
    simp only [Value.slice.injEq,Option.some.injEq,Addr.mk.injEq,and_true,true_and] at e9
    obtain ⟨⟨rfl,rfl⟩,rfl⟩:=e9
    refine (l04Drop_any gb 0 cap g.l k cl hcl9 oX pt ut (yO jt (by decide))).mono ?_
    rintro e w4 ⟨v9,rfl,oe,xy⟩
    exact ⟨upd f 12 v9,by simp [upd,g4,vI],ra_app (U xu) xt qG (by decide) (fun u hu=>by cases hu) ⟨zU oe (U xE).size,(U xE).trans (xy.mono (U xE).size)⟩⟩
   | 13,Z =>
    obtain rfl:=yc Z
    have g0:=K.c 0 (yf E 0 rfl) _ rfl
    clear E K xm vw n15
    rw [if_pos (by rfl)];unfold Oper.wp;go_simp
    exact ⟨upd f 13 (J cp 0),by simp [upd,g0],bw (U xu) 13 _ (yj rfl) (by decide) (by decide)⟩
   | 14,Z =>
    obtain rfl:=yc Z
    have qP:=K.c 13 (yf E 13 rfl) _ rfl
    clear E K xm vw n15
    rw [if_pos (by rfl)];unfold Oper.wp;go_simp
    exact ⟨upd f 14 (J cp 1),by simp [upd,qP],bw (U xu) 14 _ (yj rfl) (by decide) (by decide)⟩
   | 15,Z =>
    obtain rfl:=yc Z
    have jo:=K.c 14 (yf E 14 rfl) _ rfl
    have kC:x[12]? = some true:=E ⟨12,.data⟩ (by simp) rfl
    obtain ⟨aD,vo⟩:=K.a kC xt
    have vK:=H (zx (U xR) vo)
    have y1:=R (U vK).box 1 rfl
    have q1:=zd (U vK).box 1 (by show 1 < 13; decide)
    obtain ⟨ga,gn,gc,ua⟩:∃ ga gn gc,f 12 = .slice ga gn gc:=by
     obtain ⟨ga,gc,ua⟩:=cA (zI aD (by simp; omega))
     exact ⟨ga,_,gc,ua⟩
    clear E K xm vw n15 aD vo
    rw [if_pos (by rfl)];unfold Oper.wp;go_simp
    refine ⟨f,by simp [jo,ua],?_⟩
    have:=ra_store (U xu) kC xt (by decide) (fun v u hu=>by cases hu)
    rw [ua] at this
    exact this
   | i + 16,Z=>simp at Z
end Go.Proofs.YtnphbkgfjanmgaaGreatDoor
