/-
  A trade done, by the model: proved by walking the method.
-/
import Derived.Test.YtnphbkgfjanmgaaGreatDoorDj38
set_option linter.unusedVariables false
set_option maxHeartbeats 6400000
set_option maxRecDepth 100000
namespace Go.Proofs.YtnphbkgfjanmgaaGreatDoor
open Go.RowKit
structure R3 (C:Nat→Value→Prop) (cp:Nat) (ta ev:Value) (us:List Value) (B0:World) (fy:List Od) (x:List Bool) (f:Nat→Value) (W:World):Prop where
 c:∀ j,x[j]? = some true→C j (f j)
 bel:x[24]? = some false→Below B0.heap.size B0 W
 m17:x[17]? = some true→∃ v,f 17 = .tuple #[v,ta,ev]∧(x[24]? = some false→ORow W B0.heap.size v fy)
 m18:x[18]? = some true→f 18 = f 17
 m19:x[19]? = some true→f 17 = .tuple #[f 19,ta,ev]
 z:x[24]? = some true→∃ W0,(ORow W0 B0.heap.size (f 19) fy∧Below B0.heap.size B0 W0)∧(x[27]? = some false→W = W0.setCell ⟨cp,1,none⟩ (f 19))∧(x[27]? = some true→W = World.setCells (W0.setCell ⟨cp,1,none⟩ (f 19)) cp 2 us)
def R3A (cl:(Nat→Value)→Act) (C:Nat→Value→Prop) (cp:Nat) (ta ev:Value) (us:List Value) (B0:World) (fy:List Od) (x:List Bool) (cs:Act) (W:World):Prop:=∃ f,cs = cl f∧R3 C cp ta ev us B0 fy x f W
section
variable {C:Nat→Value→Prop} {cp:Nat} {ta ev:Value} {us:List Value} {B0 W W':World} {fy:List Od} {x:List Bool} {f:Nat→Value}
theorem r3_grow (h:R3 C cp ta ev us B0 fy x f W) (n:x[24]? = some false) (E:yp W W'):R3 C cp ta ev us B0 fy x f W' :=
 ⟨h.c,fun _=>(h.bel n).trans (E.mono (h.bel n).size),fun a=>by
  obtain ⟨v,N,Y⟩:=h.m17 a
  exact ⟨v,N,fun n=>zM (Y n) E⟩,h.m18,h.m19,fun a=>by rw [n] at a; cases a⟩
theorem bi (h:R3 C cp ta ev us B0 fy x f W) (i:Nat) (v:Value) (hv:C i v) (hi:i ≠ 17∧i ≠ 18∧i ≠ 19∧i ≠ 24∧i ≠ 27):R3 C cp ta ev us B0 fy (x.set i true) (upd f i v) W:=by
 obtain ⟨N,h6,uR,uK,vR⟩:=hi
 refine ⟨zC h.c hv,?_,?_,?_,?_,?_⟩ <;> simp only [gq N,gq h6,gq uR,gq uK,gq vR,zk f v N.symm,zk f v h6.symm,zk f v uR.symm]
 ·exact h.bel
 ·exact h.m17
 ·exact h.m18
 ·exact h.m19
 ·exact h.z
theorem r3_17 (h:R3 C cp ta ev us B0 fy x f W) (n:x[24]? = some false) (n18:x[18]? = some false) (n19:x[19]? = some false) (hc:∀ v,C 17 v) {v:Value} (Z:ORow W' B0.heap.size v fy) (E:yp W W'):R3 C cp ta ev us B0 fy (x.set 17 true) (upd f 17 (.tuple #[v,ta,ev])) W':=by
 have hg:=r3_grow h n E
 refine ⟨zC hg.c (hc _),fun _=>hg.bel n,fun _=>⟨v,zr _ _ _,fun _=>Z⟩,?_,?_,?_⟩
 ·intro e; rw [gq (by decide),n18] at e; cases e
 ·intro e; rw [gq (by decide),n19] at e; cases e
 ·intro e; rw [gq (by decide),n] at e; cases e
theorem r3_18 (h:R3 C cp ta ev us B0 fy x f W) (hc:∀ v,C 18 v):R3 C cp ta ev us B0 fy (x.set 18 true) (upd f 18 (f 17)) W:=by
 refine ⟨zC h.c (hc _),?_,?_,fun _=>?_,?_,?_⟩
 ·rw [gq (by decide)]; exact h.bel
 ·rw [gq (by decide),gq (by decide),zk _ _ (by decide)]; exact h.m17
 ·rw [zr,zk _ _ (by decide)]
 ·rw [gq (by decide),zk _ _ (by decide),zk _ _ (by decide)]; exact h.m19
 ·rw [gq (by decide),gq (by decide),zk _ _ (by decide)]; exact h.z
theorem r3_19 (h:R3 C cp ta ev us B0 fy x f W) (n:x[24]? = some false) (hc:∀ v,C 19 v) {v:Value} (hv:f 17 = .tuple #[v,ta,ev]):R3 C cp ta ev us B0 fy (x.set 19 true) (upd f 19 v) W:=by
 refine ⟨zC h.c (hc _),?_,?_,?_,fun _=>?_,?_⟩
 ·rw [gq (by decide)]; exact h.bel
 ·rw [gq (by decide),gq (by decide),zk _ _ (by decide)]; exact h.m17
 ·rw [gq (by decide),zk _ _ (by decide),zk _ _ (by decide)]; exact h.m18
 ·rw [zr,zk _ _ (by decide)]; exact hv
 ·intro e; rw [gq (by decide),n] at e; cases e
theorem r3_row (h:R3 C cp ta ev us B0 fy x f W) (n:x[24]? = some false) (qY:x[17]? = some true) (h19:x[19]? = some true):ORow W B0.heap.size (f 19) fy:=by
 obtain ⟨v,N,Y⟩:=h.m17 qY
 have h3:=h.m19 h19
 rw [N] at h3
 simp only [Value.tuple.injEq,Array.mk.injEq,List.cons.injEq,and_true] at h3
 rw [← h3]
 exact Y n
theorem r3_24 (h:R3 C cp ta ev us B0 fy x f W) (n:x[24]? = some false) (n27:x[27]? = some false) (qY:x[17]? = some true) (h19:x[19]? = some true) (hc:∀ v,C 24 v):R3 C cp ta ev us B0 fy (x.set 24 true) f (W.setCell (Q cp 1) (f 19)):=by
 refine ⟨fun j V=>?_,?_,fun _=>?_,?_,?_,fun _=>⟨W,⟨r3_row h n qY h19,h.bel n⟩,fun _=>rfl,fun e=>?_⟩⟩
 ·by_cases hjm:j = 24
  ·subst hjm; exact hc _
  ·rw [gq (fun e=>hjm e.symm)] at V; exact h.c j V
 ·intro e; rw [gqs n] at e; cases e
 ·obtain ⟨v,N,_⟩:=h.m17 qY
  exact ⟨v,N,fun e=>by rw [gqs n] at e; cases e⟩
 ·rw [gq (by decide)]; exact h.m18
 ·rw [gq (by decide)]; exact h.m19
 ·rw [gq (by decide),n27] at e; cases e
theorem r3_27 (h:R3 C cp ta ev us B0 fy x f W) (n27:x[27]? = some false) (h24:x[24]? = some true) (hc:∀ v,C 27 v):R3 C cp ta ev us B0 fy (x.set 27 true) f (World.setCells W cp 2 us):=by
 obtain ⟨W0,hA,N,_⟩:=h.z h24
 refine ⟨fun j V=>?_,?_,fun e=>?_,?_,?_,fun _=>⟨W0,hA,fun e=>?_,fun _=>?_⟩⟩
 ·by_cases hjm:j = 27
  ·subst hjm; exact hc _
  ·rw [gq (fun e=>hjm e.symm)] at V; exact h.c j V
 ·intro e; rw [gq (by decide),h24] at e; cases e
 ·rw [gq (by decide)] at e
  obtain ⟨v,N,_⟩:=h.m17 e
  exact ⟨v,N,fun e=>by rw [gq (by decide),h24] at e; cases e⟩
 ·rw [gq (by decide)]; exact h.m18
 ·rw [gq (by decide)]; exact h.m19
 ·rw [gqs n27] at e; cases e
 ·rw [N n27]
end
theorem take_3 {cp B:Nat} {vl vd va:Value} {g:Gr} {t:Od} {kd n0:Int} {dy l0:List Od} (ck A ct F cq ci:Int) (O:Nat) (cg:ByteArray) (id xj qty xk xi:Int) (w:World) (h:MS cp B w vl vd va g t kd n0 dy l0) (hi:GI g) (hm:MR g t kd dy) (he:okE ⟨3,⟨ck,A,ct,F,cq,ci,O,cg⟩,id,xj,qty,xk,xi⟩ = true) (hr:zF g ⟨3,⟨ck,A,ct,F,cq,ci,O,cg⟩,id,xj,qty,xk,xi⟩ = 0):Calls Tryz.prog 52 #[J cp 0,.agg (yw 3 ck A ct F cq ci O cg id xj qty xk xi).toArray] w fun x w'=>TakE cp B va n0 l0 g t kd dy ⟨3,⟨ck,A,ct,F,cq,ci,O,cg⟩,id,xj,qty,xk,xi⟩ w x w':=by
 have hsf:=sfl
 have hO:=h.lt
 have vW:=h.base
 have qF:Hid (∀ w' vT vh,Below B w w'→MS cp B w' vT vh va (aM g ⟨3,⟨ck,A,ct,F,cq,ci,O,cg⟩,id,xj,qty,xk,xi⟩) (tkM g t ⟨3,⟨ck,A,ct,F,cq,ci,O,cg⟩,id,xj,qty,xk,xi⟩) (kdM kd ⟨3,⟨ck,A,ct,F,cq,ci,O,cg⟩,id,xj,qty,xk,xi⟩) n0 (dyM g dy ⟨3,⟨ck,A,ct,F,cq,ci,O,cg⟩,id,xj,qty,xk,xi⟩) l0→TakE cp B va n0 l0 g t kd dy ⟨3,⟨ck,A,ct,F,cq,ci,O,cg⟩,id,xj,qty,xk,xi⟩ w (.returned (.tuple #[])) w'):=fun w' vT vh N Y=>⟨rfl,N,vT,vh,Y⟩
 obtain ⟨N,jH,o,kf,-,ui,oZ,hqt,-⟩:=rule3 (e:=⟨3,⟨ck,A,ct,F,cq,ci,O,cg⟩,id,xj,qty,xk,xi⟩) rfl hr
 simp only at ui oZ hqt
 have kR:t = g.tk:=hm.same jH
 have kD:=hi.good (.inr jH)
 obtain ⟨k,uX⟩:∃ k:Nat,g.l[k]? = some o:=List.getElem?_of_mem (dj kf).1
 have uM:plc g.l xj = k:=by rw [oZ]; exact co kD.rise uX
 have ug:Hid (aM g ⟨3,⟨ck,A,ct,F,cq,ci,O,cg⟩,id,xj,qty,xk,xi⟩ = { g with l:=(aN g.l k o qty),tk:={ g.tk with left:=g.tk.left - qty } }):=by show _ = _; rw [step3 rfl]; simp only [begG,cF uM uX]; rw [if_neg (by omega)]
 have ux:Hid (tkM g t ⟨3,⟨ck,A,ct,F,cq,ci,O,cg⟩,id,xj,qty,xk,xi⟩ = { t with left:=t.left - qty }∧kdM kd ⟨3,⟨ck,A,ct,F,cq,ci,O,cg⟩,id,xj,qty,xk,xi⟩ = kd∧dyM g dy ⟨3,⟨ck,A,ct,F,cq,ci,O,cg⟩,id,xj,qty,xk,xi⟩ = dy):=⟨rfl,rfl,rfl⟩
 have HQ:Hid (min t.left o.left = qty):=by show _ = _; rw [kR,hqt]
 have xD:g.l ≠ []:=by intro h; rw [h] at uX; simp at uX
 obtain ⟨gb,cap,rfl,uq,hBg,hgw⟩:=cB h.row xD
 have jh:=hi.len
 have HIO:=H uX
 have hbo:=kD.left o (dj kf).1
 have HTL:Hid (0 ≤ t.left∧t.left ≤ 1000000∧0 ≤ o.left∧o.left ≤ 1000000):=by have:=hi.l0; have:=hi.l1; rw [kR]; exact ⟨by omega,by omega,by omega,by omega⟩
 have jr:=H uM
 have hbn:(g.bg != 0) = true:=by simp [N]
 have pC:Hid (g.bg ≠ 0):=by show _ ≠ _; omega
 have HLN:Hid ((aN g.l k o qty).length ≤ 1073741824):=by
  show _ ≤ _
  unfold aN
  split
  ·simp; omega
  ·simp; omega
 clear N jH kf ui oZ hqt kR kD uM uX hbo
 generalize TakE cp B va n0 l0 g t kd dy ⟨3,⟨ck,A,ct,F,cq,ci,O,cg⟩,id,xj,qty,xk,xi⟩ w = C at qF ⊢
 obtain ⟨xz,HX⟩:=fE w (yw 3 ck A ct F cq ci O cg id xj qty xk xi) 52
 have HM:=H (zv h xz)
 have HB:=H (xz.mono vW)
 clear h xz hi hm he hr
 go_enter Tryz.func52,Tryz.ntmps52
 refine fD fun zb HK=>?_
 go_wp2_with fail
 refine U HK _ _ ?_
 clear HK
 generalize (w.alloc (L (yw 3 ck A ct F cq ci O cg id xj qty xk xi).toArray 52)) = W1 at HX HM HB ⊢
 have c9:=K (U HM).box 9 rfl
 have q9:=zd (U HM).box 9 (by show 9 < 13; decide)
 have xw:Hid (Below B w (World.setCells W1 cp 9 [.bool true])):=zL (U HB) yb (U HM) 9 _
 have xR:Hid (MS cp B (World.setCells W1 cp 9 [.bool true]) (.slice (some (Q gb 0)) g.l.length cap) vd va g t kd n0 dy l0):=bK (U HM) 9 [.bool true] (by simp) (by simp [msV,hbn]) rfl (fun h=>absurd h (U pC))
 have xI:Hid (Bx (World.setCells W1 cp 9 [.bool true]) w.heap.size (yw 3 ck A ct F cq ci O cg id xj qty xk xi)):=aO (U HX) (bA cp w.heap.size (by omega) _ 9 W1)
 clear HX HM HB hbn
 refine fD fun zb HK=>?_
 go_wp2_with fail
 refine U HK _ _ ?_
 clear HK
 change Code.wp _ _ _ _ (World.setCells W1 cp 9 [.bool true])
 generalize World.setCells W1 cp 9 [.bool true] = xo at xw xR xI ⊢
 have uN:Hid (RdR Od.vs 6 xo (.slice (some (Q gb 0)) g.l.length cap) g.l):=zK (U xR).row (yO jh (by decide))
 have hSX:w.heap.size < xo.heap.size:=yL _ _ (K (U xI) 0 rfl)
 have e0:=K (U xI) 0 rfl
 clear c9 q9
 go_wp2_with fail
 refine zm (R3A (fun f=>{ tmps:=#[J cp 0,.agg (yw 3 ck A ct F cq ci O cg id xj qty xk xi).toArray,M,J w.heap.size 0,M,J cp 0,J cp 0,J cp 9,J w.heap.size 0,I 3,.bool false,.bool false,M,M,M,M,M,M,M,M,M,M,M,M,M,M,M,M,M,M,M,M,M,M,M,.bool true,.bool true,f 18,f 0,f 1,f 2,f 3,f 4,f 5,f 6,f 7,f 8,f 9,f 10,f 11,f 12,f 13,f 14,f 15,f 16,f 17,f 19,f 20,f 21,f 22,f 23,f 25,f 26,M,M,M,M,M,M,M,M,M,M,M,M,M,M,M,M,M,M,M,M,M,M,M,M,M,M,M,M,M,M,M,M,M,M,M,M,M,M,M,M,M,M,M,M,M,M,M,M,M,M,M,M,M,M,M,M,M,M,M,M,M,M,M,M,M,M,M,M,M,M,M,M,M,M,M,M,M,M,M,M,M,M,M,M,M,M,M,M,M,M,M,M,M,M,M,M,M,M,M,M,M,M,M,M,M,M,M,M,M,M,M,M,M,M,M,M,M,M,M,M,M,M],defers:=[] }) (fun j v=>∀ u,([some (J cp 0),some (J cp 0),some (J cp 0),some (J cp 0),some (J cp 1),some (.slice (some (Q gb 0)) g.l.length cap),some (J cp 0),some (J cp 0),some (J cp 2),some (.agg (yx t.id t.side t.ticks t.left t.life t.tag).toArray),some (J cp 0),some (J cp 0),some (J cp 1),some (.slice (some (Q gb 0)) g.l.length cap),some (J w.heap.size 10),some (I xj),some (I k),none,none,none,some (.agg (yx t.id t.side t.ticks (t.left - qty) t.life t.tag).toArray),some (.agg (Ev.vs (trE t.id o.id qty o.ticks)).toArray),some (J cp 0),some (J cp 1),none,some (J cp 0),some (J cp 2),none]:List (Option Value))[j]? = some (some u)→v = u) cp (.agg (yx t.id t.side t.ticks (t.left - qty) t.life t.tag).toArray) (.agg (Ev.vs (trE t.id o.id qty o.ticks)).toArray) (yx t.id t.side t.ticks (t.left - qty) t.life t.tag) xo (aN g.l k o qty)) (by kernel_rfl) ?_ ?_ ?_
 ·have vL:∀ j,(List.replicate 28 false)[j]? = some true→False:=fun j V=>by rw [yJ] at V; split at V <;> simp at V
  exact ⟨fun _=>M,rfl,⟨fun j V=>(vL j V).elim,fun _=>⟨rfl,rfl,rfl,Nat.le_refl _,fun _ _=>rfl⟩,fun h=>(vL _ h).elim,fun h=>(vL _ h).elim,fun h=>(vL _ h).elim,fun h=>(vL _ h).elim⟩⟩
 ·rintro x cs h2 ⟨f,rfl,R⟩ hx xO
  have xq:=bT xO hx (by kernel_rfl)
  obtain ⟨W0,⟨Z,xz⟩,-,eY⟩:=R.z (xq 24 (by simp))
  have eY:=eY (xq 27 (by simp))
  have qd:=H (zv (U xR) xz)
  have xH:=H ((U xw).trans (xz.mono (U xR).base))
  have vr:=H (zS Z (U xR).base)
  clear R xq xO hx xz Z
  dsimp only
  generalize f 0 = v0,f 1 = v1,f 2 = v2,f 3 = v3,f 4 = v4,f 5 = v5,f 6 = v6,f 7 = v7,f 8 = v8,f 9 = v9,f 10 = v10,f 11 = v11,f 12 = v12,f 13 = v13,f 14 = v14,f 15 = v15,f 16 = v16,f 17 = v17,f 18 = v18
  generalize f 19 = v19 at *
  generalize f 20 = v20,f 21 = v21,f 22 = v22,f 23 = v23,f 25 = v25,f 26 = v26
  have vy:Hid (MS cp B (W0.setCell (Q cp 1) v19) v19 vd va { g with l:=(aN g.l k o qty) } t kd n0 dy l0):=ms_list (U qd) (U vr) (fun h=>absurd h (U pC))
  have uj:Hid (Below B w (W0.setCell (Q cp 1) v19)):=zL (U xH) yb (U qd) 1 [v19]
  subst eY
  go_end0
  refine U qF _ v19 vd (zL (U uj) yb (U vy) 2 (yx t.id t.side t.ticks (t.left - qty) t.life t.tag)) ?_
  rw [U ug,(U ux).1,(U ux).2.1,(U ux).2.2]
  exact bK (U vy) 2 (yx t.id t.side t.ticks (t.left - qty) t.life t.tag) (by simp) rfl rfl (fun h=>absurd h (U pC))
 ·rintro x cs hj i op ⟨f,rfl,R⟩ X hx Z xr D
  have xu:=H R
  match i,Z with
  | 0,Z | 1,Z | 2,Z | 6,Z | 10,Z =>
   obtain rfl:=yc Z
   clear D R X
   rw [if_pos (by rfl)];unfold Oper.wp;go_simp
   exact ⟨upd f _ (J cp 0),by simp [upd],bi (U xu) _ _ (yj rfl) (by decide)⟩
  | 3,Z =>
   obtain rfl:=yc Z
   have g2:=R.c 2 (yf D 2 rfl) _ rfl
   clear D R X
   rw [if_pos (by rfl)];unfold Oper.wp;go_simp
   exact ⟨upd f 3 (J cp 0),by simp [upd,g2],bi (U xu) 3 _ (yj rfl) (by decide)⟩
  | 4,Z =>
   obtain rfl:=yc Z
   have g3:=R.c 3 (yf D 3 rfl) _ rfl
   clear D R X
   rw [if_pos (by rfl)];unfold Oper.wp;go_simp
   exact ⟨upd f 4 (J cp 1),by simp [upd,g3],bi (U xu) 4 _ (yj rfl) (by decide)⟩
  | 5,Z =>
   obtain rfl:=yc Z
   have g4:=R.c 4 (yf D 4 rfl) _ rfl
   have oN:x[24]? = some false:=zU X 28 5 24 (by kernel_rfl) hx (by simp) xr
   have jW:=H (zv (U xR) (R.bel oN))
   have z1:=K (U jW).box 1 rfl
   clear D R X
   rw [if_pos (by rfl)];unfold Oper.wp;go_simp
   exact ⟨upd f 5 (.slice (some (Q gb 0)) g.l.length cap),by simp [upd,g4],bi (U xu) 5 _ (yj rfl) (by decide)⟩
  | 7,Z =>
   obtain rfl:=yc Z
   have g6:=R.c 6 (yf D 6 rfl) _ rfl
   clear D R X
   rw [if_pos (by rfl)];unfold Oper.wp;go_simp
   exact ⟨upd f 7 (J cp 0),by simp [upd,g6],bi (U xu) 7 _ (yj rfl) (by decide)⟩
  | 8,Z =>
   obtain rfl:=yc Z
   have g7:=R.c 7 (yf D 7 rfl) _ rfl
   clear D R X
   rw [if_pos (by rfl)];unfold Oper.wp;go_simp
   exact ⟨upd f 8 (J cp 2),by simp [upd,g7],bi (U xu) 8 _ (yj rfl) (by decide)⟩
  | 9,Z =>
   obtain rfl:=yc Z
   have g8:=R.c 8 (yf D 8 rfl) _ rfl
   have oN:x[24]? = some false:=zU X 28 9 24 (by kernel_rfl) hx (by simp) xr
   have jW:=H (zv (U xR) (R.bel oN))
   have z2:=K (U jW).box 2 rfl
   have z3:=K (U jW).box 3 rfl
   have z4:=K (U jW).box 4 rfl
   have z5:=K (U jW).box 5 rfl
   have z6:=K (U jW).box 6 rfl
   have z7:=K (U jW).box 7 rfl
   clear D R X
   rw [if_pos (by rfl)];unfold Oper.wp;go_simp
   exact ⟨upd f 9 (.agg (yx t.id t.side t.ticks t.left t.life t.tag).toArray),by simp [upd,g8],bi (U xu) 9 _ (yj rfl) (by decide)⟩
  | 11,Z =>
   obtain rfl:=yc Z
   have qn:=R.c 10 (yf D 10 rfl) _ rfl
   clear D R X
   rw [if_pos (by rfl)];unfold Oper.wp;go_simp
   exact ⟨upd f 11 (J cp 0),by simp [upd,qn],bi (U xu) 11 _ (yj rfl) (by decide)⟩
  | 12,Z =>
   obtain rfl:=yc Z
   have vE:=R.c 11 (yf D 11 rfl) _ rfl
   clear D R X
   rw [if_pos (by rfl)];unfold Oper.wp;go_simp
   exact ⟨upd f 12 (J cp 1),by simp [upd,vE],bi (U xu) 12 _ (yj rfl) (by decide)⟩
  | 13,Z =>
   obtain rfl:=yc Z
   have ua:=R.c 12 (yf D 12 rfl) _ rfl
   have oN:x[24]? = some false:=zU X 28 13 24 (by kernel_rfl) hx (by simp) xr
   have jW:=H (zv (U xR) (R.bel oN))
   have z1:=K (U jW).box 1 rfl
   clear D R X
   rw [if_pos (by rfl)];unfold Oper.wp;go_simp
   exact ⟨upd f 13 (.slice (some (Q gb 0)) g.l.length cap),by simp [upd,ua],bi (U xu) 13 _ (yj rfl) (by decide)⟩
  | 14,Z =>
   obtain rfl:=yc Z
   clear D R X
   rw [if_pos (by rfl)];unfold Oper.wp;go_simp
   exact ⟨upd f 14 (J w.heap.size 10),by simp [upd],bi (U xu) 14 _ (yj rfl) (by decide)⟩
  | 15,Z =>
   obtain rfl:=yc Z
   have je:=R.c 14 (yf D 14 rfl) _ rfl
   have oN:x[24]? = some false:=zU X 28 15 24 (by kernel_rfl) hx (by simp) xr
   have kU:=K (zf (U xI) (R.bel oN) hSX) 10 rfl
   clear D R X
   rw [if_pos (by rfl)];unfold Oper.wp;go_simp
   exact ⟨upd f 15 (I xj),by simp [upd,je],bi (U xu) 15 _ (yj rfl) (by decide)⟩
  | 16,Z =>
   obtain rfl:=yc Z
   have qI:=R.c 13 (yf D 13 rfl) _ rfl
   have g15:=R.c 15 (yf D 15 rfl) _ rfl
   have oN:x[24]? = some false:=zU X 28 16 24 (by kernel_rfl) hx (by simp) xr
   have qC:=H (zh (U uN) (R.bel oN) yb)
   clear D R X
   rw [if_pos (by rfl)];unfold Oper.wp;go_simp
   refine (cX _ g.l xj hj (U qC)).mono ?_
   rw [U jr]
   rintro e w4 ⟨rfl,xy⟩
   exact ⟨upd f 16 (I k),by simp [upd,qI,g15],bi (r3_grow (U xu) oN xy) 16 _ (yj rfl) (by decide)⟩
  | 17,Z =>
   obtain rfl:=yc Z
   have oN:x[24]? = some false:=zU X 28 17 24 (by kernel_rfl) hx (by simp) xr
   have g5:=R.c 5 (yf D 5 rfl) _ rfl
   have g9:=R.c 9 (yf D 9 rfl) _ rfl
   have g16:=R.c 16 (yf D 16 rfl) _ rfl
   have k18:x[18]? = some false:=zU X 28 17 18 (by kernel_rfl) hx (by simp) xr
   have k19:x[19]? = some false:=zU X 28 17 19 (by kernel_rfl) hx (by simp) xr
   have vj:=R.bel oN
   have qC:=H (zh (U uN) vj yb)
   have HSV:=H vj.size
   obtain ⟨a0,a1,a2,a3⟩:=U HTL
   have HHT:=H (l04Hit_any _ g.l t o k hj (U qC) (yO jh (by decide)) (U HIO) a0 a1 a2 a3)
   rw [U HQ] at HHT
   clear D R X vj a0 a1 a2 a3
   rw [if_pos (by rfl)];unfold Oper.wp;go_simp
   refine (U HHT).mono ?_
   rintro e w4 ⟨v9,rfl,kL,xy⟩
   exact ⟨upd f 17 (.tuple #[v9,.agg (yx t.id t.side t.ticks (t.left - qty) t.life t.tag).toArray,.agg (Ev.vs (trE t.id o.id qty o.ticks)).toArray]),by simp [upd,g5,g9,g16,Od.vs],r3_17 (U xu) oN k18 k19 (fun v u hu=>by cases hu) (zS kL (U HSV)) xy⟩
  | 18,Z =>
   obtain rfl:=yc Z
   clear D R X
   rw [if_pos (by rfl)];unfold Oper.wp;go_simp
   exact ⟨upd f 18 (f 17),by simp [upd],r3_18 (U xu) (fun v u hu=>by cases hu)⟩
  | 19,Z =>
   obtain rfl:=yc Z
   have oN:x[24]? = some false:=zU X 28 19 24 (by kernel_rfl) hx (by simp) xr
   have ph:x[17]? = some true:=yh X 18 rfl (yf D 18 rfl) 17 rfl
   obtain ⟨v9,e9,-⟩:=R.m17 ph
   have g18:f 18 = .tuple #[v9,.agg (yx t.id t.side t.ticks (t.left - qty) t.life t.tag).toArray,.agg (Ev.vs (trE t.id o.id qty o.ticks)).toArray]:=(R.m18 (yf D 18 rfl)).trans e9
   clear D R X
   rw [if_pos (by rfl)];unfold Oper.wp;go_simp
   exact ⟨upd f 19 (v9),by simp [upd,g18,e9],r3_19 (U xu) oN (fun v u hu=>by cases hu) e9⟩
  | 20,Z =>
   obtain rfl:=yc Z
   have ph:x[17]? = some true:=yh X 18 rfl (yf D 18 rfl) 17 rfl
   obtain ⟨v9,e9,-⟩:=R.m17 ph
   have g18:f 18 = .tuple #[v9,.agg (yx t.id t.side t.ticks (t.left - qty) t.life t.tag).toArray,.agg (Ev.vs (trE t.id o.id qty o.ticks)).toArray]:=(R.m18 (yf D 18 rfl)).trans e9
   clear D R X
   rw [if_pos (by rfl)];unfold Oper.wp;go_simp
   exact ⟨upd f 20 (.agg (yx t.id t.side t.ticks (t.left - qty) t.life t.tag).toArray),by simp [upd,g18,e9],bi (U xu) 20 _ (yj rfl) (by decide)⟩
  | 21,Z =>
   obtain rfl:=yc Z
   have ph:x[17]? = some true:=yh X 18 rfl (yf D 18 rfl) 17 rfl
   obtain ⟨v9,e9,-⟩:=R.m17 ph
   have g18:f 18 = .tuple #[v9,.agg (yx t.id t.side t.ticks (t.left - qty) t.life t.tag).toArray,.agg (Ev.vs (trE t.id o.id qty o.ticks)).toArray]:=(R.m18 (yf D 18 rfl)).trans e9
   clear D R X
   rw [if_pos (by rfl)];unfold Oper.wp;go_simp
   exact ⟨upd f 21 (.agg (Ev.vs (trE t.id o.id qty o.ticks)).toArray),by simp [upd,g18,e9],bi (U xu) 21 _ (yj rfl) (by decide)⟩
  | 22,Z =>
   obtain rfl:=yc Z
   have g0:=R.c 0 (yf D 0 rfl) _ rfl
   clear D R X
   rw [if_pos (by rfl)];unfold Oper.wp;go_simp
   exact ⟨upd f 22 (J cp 0),by simp [upd,g0],bi (U xu) 22 _ (yj rfl) (by decide)⟩
  | 23,Z =>
   obtain rfl:=yc Z
   have g22:=R.c 22 (yf D 22 rfl) _ rfl
   clear D R X
   rw [if_pos (by rfl)];unfold Oper.wp;go_simp
   exact ⟨upd f 23 (J cp 1),by simp [upd,g22],bi (U xu) 23 _ (yj rfl) (by decide)⟩
  | 24,Z =>
   obtain rfl:=yc Z
   have g23:=R.c 23 (yf D 23 rfl) _ rfl
   have k19:x[19]? = some true:=D ⟨19,.data⟩ (by simp) rfl
   have ph:x[17]? = some true:=X 18 _ rfl (yh X 19 rfl k19 18 rfl) ⟨17,.data⟩ (by simp) rfl
   have k27:x[27]? = some false:=zU X 28 24 27 (by kernel_rfl) hx (by simp) xr
   have vI:=H (zv (U xR) (R.bel xr))
   have y1:=K (U vI).box 1 rfl
   have q1:=zd (U vI).box 1 (by show 1 < 13; decide)
   obtain ⟨ga,gc,g19⟩:=cd (zK (r3_row R xr ph k19) (U HLN))
   generalize (aN g.l k o qty).length = gn at g19
   clear D R X
   rw [if_pos (by rfl)];unfold Oper.wp;go_simp
   refine ⟨f,by simp [g23,g19],?_⟩
   have:=r3_24 (U xu) xr k27 ph k19 (fun v u hu=>by cases hu)
   rw [g19] at this
   exact this
  | 25,Z =>
   obtain rfl:=yc Z
   have g1:=R.c 1 (yf D 1 rfl) _ rfl
   clear D R X
   rw [if_pos (by rfl)];unfold Oper.wp;go_simp
   exact ⟨upd f 25 (J cp 0),by simp [upd,g1],bi (U xu) 25 _ (yj rfl) (by decide)⟩
  | 26,Z =>
   obtain rfl:=yc Z
   have g25:=R.c 25 (yf D 25 rfl) _ rfl
   clear D R X
   rw [if_pos (by rfl)];unfold Oper.wp;go_simp
   exact ⟨upd f 26 (J cp 2),by simp [upd,g25],bi (U xu) 26 _ (yj rfl) (by decide)⟩
  | 27,Z =>
   obtain rfl:=yc Z
   have g26:=R.c 26 (yf D 26 rfl) _ rfl
   have g20:=R.c 20 (yf D 20 rfl) _ rfl
   have oN:x[24]? = some true:=D ⟨24,.chain⟩ (by simp) rfl
   obtain ⟨W0,⟨kL,oG⟩,eV,-⟩:=R.z oN
   have eV:=eV xr
   have vI:Hid (MS cp B hj (f 19) vd va { g with l:=(aN g.l k o qty) } t kd n0 dy l0):=by
    show MS cp B hj (f 19) vd va { g with l:=(aN g.l k o qty) } t kd n0 dy l0
    rw [eV]
    exact ms_list (zv (U xR) oG) (zS kL (U xR).base) (fun h=>absurd h (U pC))
   have c2:=K (U vI).box 2 rfl
   have q2:=zd (U vI).box 2 (by show 2 < 13; decide)
   have c3:=K (U vI).box 3 rfl
   have q3:=zd (U vI).box 3 (by show 3 < 13; decide)
   have c4:=K (U vI).box 4 rfl
   have q4:=zd (U vI).box 4 (by show 4 < 13; decide)
   have c5:=K (U vI).box 5 rfl
   have q5:=zd (U vI).box 5 (by show 5 < 13; decide)
   have c6:=K (U vI).box 6 rfl
   have q6:=zd (U vI).box 6 (by show 6 < 13; decide)
   have c7:=K (U vI).box 7 rfl
   have q7:=zd (U vI).box 7 (by show 7 < 13; decide)
   clear D R X eV kL oG
   rw [if_pos (by rfl)];unfold Oper.wp;go_simp
   exact ⟨f,by simp [g26,g20],r3_27 (U xu) xr oN (fun v u hu=>by cases hu)⟩
  | i + 28,Z=>simp at Z
theorem rd_tail {W:World} {db qH kw:Nat} {o:Od} {dr:List Od} (h:RdR Od.vs 6 W (.slice (some (Q db qH)) (o :: dr).length kw) (o :: dr)) (hcp:(o :: dr).length ≤ kw):RdR Od.vs 6 W (.slice (some (Q db (qH + 6))) dr.length (kw - 1)) dr∧(kw - 1 = 0→RdR Od.vs 6 W (.slice (some (Q db qH)) dr.length 0) dr):=by
 obtain ⟨a,cap,e,hl,hc⟩:=h
 simp only [Value.slice.injEq,true_and] at e
 obtain ⟨rfl,rfl⟩:=e
 simp only [List.length_cons] at hl hcp
 refine ⟨⟨_,_,rfl,by omega,fun xD=>?_⟩,fun h0=>⟨_,_,rfl,by omega,fun xD=>?_⟩⟩
 ·obtain ⟨b,off,e2,E,X⟩:=hc (by simp)
  simp only [Option.some.injEq,Addr.mk.injEq,and_true] at e2
  obtain ⟨rfl,rfl⟩:=e2
  refine ⟨_,_,rfl,E,fun j c V i u hi=>?_⟩
  have:=X (j + 1) c (by simpa using V) i u hi
  rw [show qH + (j + 1) * 6 + i = qH + 6 + j * 6 + i by omega] at this
  exact this
 ·exfalso
  cases dr with
  | nil=>exact xD rfl
  | cons a b=>simp only [List.length_cons] at hcp; omega
theorem ms_days {cp B:Nat} {W:World} {vl vd vh va:Value} {g:Gr} {t:Od} {kd n0:Int} {dy dy' l0:List Od} (h:MS cp B W vl vd va g t kd n0 dy l0) (hd:RdR Od.vs 6 W vh dy') (hn:dy' ≠ []→∀ b off n c,vh = .slice (some (Q b off)) n c→b ≠ cp∧n ≤ c) (hq:g.bg ≠ 0):MS cp B (W.setCell (Q cp 10) vh) vl vh va g t kd n0 dy' l0 :=
 ⟨aX h.box (by show 10 < 13; decide),dS h.nl [vh] 10 W h.row,cR (us:=[vh]) (o:=10) hd (fun xD b off n c e=>(hn xD b off n c e).1),cR (us:=[vh]) (o:=10) h.ahd (fun xD b' off n c e=>by have:=h.na xD b' off n c e; have:=h.hO; omega),h.sla,dN [vh] 10 W h.typ,h.hO,fun h=>absurd h hq,hn,h.na⟩
theorem take_9 {cp B:Nat} {vl vd va:Value} {g:Gr} {t:Od} {kd n0:Int} {dy l0:List Od} (ck A ct F cq ci:Int) (O:Nat) (cg:ByteArray) (id xj qty xk xi:Int) (w:World) (h:MS cp B w vl vd va g t kd n0 dy l0) (hi:GI g) (hm:MR g t kd dy) (he:okE ⟨9,⟨ck,A,ct,F,cq,ci,O,cg⟩,id,xj,qty,xk,xi⟩ = true) (hr:zF g ⟨9,⟨ck,A,ct,F,cq,ci,O,cg⟩,id,xj,qty,xk,xi⟩ = 0):Calls Tryz.prog 52 #[J cp 0,.agg (yw 9 ck A ct F cq ci O cg id xj qty xk xi).toArray] w fun x w'=>TakE cp B va n0 l0 g t kd dy ⟨9,⟨ck,A,ct,F,cq,ci,O,cg⟩,id,xj,qty,xk,xi⟩ w x w':=by
 have hsf:=sfl
 have hO:=h.lt
 have vW:=h.base
 have qF:Hid (∀ w' vT vh,Below B w w'→MS cp B w' vT vh va (aM g ⟨9,⟨ck,A,ct,F,cq,ci,O,cg⟩,id,xj,qty,xk,xi⟩) (tkM g t ⟨9,⟨ck,A,ct,F,cq,ci,O,cg⟩,id,xj,qty,xk,xi⟩) (kdM kd ⟨9,⟨ck,A,ct,F,cq,ci,O,cg⟩,id,xj,qty,xk,xi⟩) n0 (dyM g dy ⟨9,⟨ck,A,ct,F,cq,ci,O,cg⟩,id,xj,qty,xk,xi⟩) l0→TakE cp B va n0 l0 g t kd dy ⟨9,⟨ck,A,ct,F,cq,ci,O,cg⟩,id,xj,qty,xk,xi⟩ w (.returned (.tuple #[])) w'):=fun w' vT vh N Y=>⟨rfl,N,vT,vh,Y⟩
 obtain ⟨h8,o,hf,hd,ui,hqo⟩:=rule9 (e:=⟨9,⟨ck,A,ct,F,cq,ci,O,cg⟩,id,xj,qty,xk,xi⟩) rfl hr
 simp only at ui hqo
 have kD:=hi.good (.inl (by omega))
 obtain ⟨k,uX⟩:=find_at hf
 have uM:plc g.l id = k:=by rw [ui]; exact co kD.rise uX
 have hpo:plc g.l o.id = k:=co kD.rise uX
 have ug:Hid (aM g ⟨9,⟨ck,A,ct,F,cq,ci,O,cg⟩,id,xj,qty,xk,xi⟩ = { g with l:=g.l.take k ++ g.l.drop (k + 1) }):=by show _ = _; rw [step9 rfl,hd]; simp only [begG,cF hpo uX]; rw [if_neg (by omega),aN,if_pos rfl]
 obtain ⟨dr,hdy⟩:∃ dr,dy = o :: dr:=by
  rw [hm.dy,if_pos h8]
  rw [← List.head?_filter] at hf
  cases hc:g.l.filter isDy with
  | nil=>rw [hc] at hf; simp at hf
  | cons a b=>rw [hc] at hf; simp at hf; subst hf; exact ⟨b,rfl⟩
 subst hdy
 have ux:Hid (tkM g t ⟨9,⟨ck,A,ct,F,cq,ci,O,cg⟩,id,xj,qty,xk,xi⟩ = t∧kdM kd ⟨9,⟨ck,A,ct,F,cq,ci,O,cg⟩,id,xj,qty,xk,xi⟩ = kd∧dyM g (o :: dr) ⟨9,⟨ck,A,ct,F,cq,ci,O,cg⟩,id,xj,qty,xk,xi⟩ = dr):=⟨rfl,rfl,rfl⟩
 have xD:g.l ≠ []:=by intro h; rw [h] at uX; simp at uX
 have oW:=(yH.1 uX).1
 obtain ⟨gb,cap,rfl,uq,hBg,hgw⟩:=cB h.row xD
 obtain ⟨da,kw,rfl,aE,hdc⟩:=h.days
 obtain ⟨db,qH,rfl,hdb,hdcl⟩:=hdc (by simp)
 have jh:=hi.len
 have jr:=H uM
 have hbn:(g.bg != 0) = true:=by simp [h8]
 have pC:Hid (g.bg ≠ 0):=by show _ ≠ _; omega
 have hdl1:(o :: dr).length = dr.length + 1:=rfl
 clear h8 uM hpo uX hqo ui hf hd kD hdc hdcl
 generalize TakE cp B va n0 l0 g t kd (o :: dr) ⟨9,⟨ck,A,ct,F,cq,ci,O,cg⟩,id,xj,qty,xk,xi⟩ w = C at qF ⊢
 obtain ⟨xz,HX⟩:=fE w (yw 9 ck A ct F cq ci O cg id xj qty xk xi) 52
 have HM:=H (zv h xz)
 have HB:=H (xz.mono vW)
 clear h xz hi hm he hr
 go_enter Tryz.func52,Tryz.ntmps52
 refine fD fun zb HK=>?_
 go_wp2_with fail
 refine U HK _ _ ?_
 clear HK
 generalize (w.alloc (L (yw 9 ck A ct F cq ci O cg id xj qty xk xi).toArray 52)) = W1 at HX HM HB ⊢
 have c9:=K (U HM).box 9 rfl
 have q9:=zd (U HM).box 9 (by show 9 < 13; decide)
 have xw:Hid (Below B w (World.setCells W1 cp 9 [.bool true])):=zL (U HB) yb (U HM) 9 _
 have xR:Hid (MS cp B (World.setCells W1 cp 9 [.bool true]) (.slice (some (Q gb 0)) g.l.length cap) (.slice (some (Q db qH)) (o :: dr).length kw) va g t kd n0 (o :: dr) l0):=bK (U HM) 9 [.bool true] (by simp) (by simp [msV,hbn]) rfl (fun h=>absurd h (U pC))
 have xI:Hid (Bx (World.setCells W1 cp 9 [.bool true]) w.heap.size (yw 9 ck A ct F cq ci O cg id xj qty xk xi)):=aO (U HX) (bA cp w.heap.size (by omega) _ 9 W1)
 clear HX HM HB hbn
 refine fD fun zb HK=>?_
 go_wp2_with fail
 refine U HK _ _ ?_
 clear HK
 change Code.wp _ _ _ _ (World.setCells W1 cp 9 [.bool true])
 generalize World.setCells W1 cp 9 [.bool true] = X0 at xw xR xI ⊢
 have HON:=H ((U xR).ndc (by simp) db qH _ _ rfl)
 have HDT:=H (rd_tail (U xR).days (U HON).2)
 have e0:=K (U xI) 0 rfl
 have c10:=K (U xR).box 10 rfl
 have q10:=zd (U xR).box 10 (by show 10 < 13; decide)
 rw [hdl1] at c10
 clear c9 q9
 go_wp2_with fail
 have HV:Hid (RdR Od.vs 6 X0 (.slice (some (Q db qH)) dr.length 0) dr∧(dr ≠ []→∀ b off n c,((.slice (some (Q db qH)) dr.length 0):Value) = .slice (some (Q b off)) n c→b ≠ cp∧n ≤ c)):=⟨(U HDT).2 (by omega),fun _ b off n c e=>by simp only [Value.slice.injEq,Option.some.injEq,Addr.mk.injEq,and_true] at e; obtain ⟨⟨rfl,rfl⟩,rfl,rfl⟩:=e; have:=U HON; rw [hdl1] at this; exact ⟨this.1,by omega⟩⟩
 generalize ((.slice (some (Q db qH)) dr.length 0):Value) = vh at HV ⊢
 generalize Value.slice (some (Q db qH)) (dr.length + 1) 1 = v166
 rotate_left
 have HV:Hid (RdR Od.vs 6 X0 (.slice (some (Q db (qH + 6))) dr.length (kw - 1)) dr∧(dr ≠ []→∀ b off n c,((.slice (some (Q db (qH + 6))) dr.length (kw - 1)):Value) = .slice (some (Q b off)) n c→b ≠ cp∧n ≤ c)):=⟨(U HDT).1,fun _ b off n c e=>by simp only [Value.slice.injEq,Option.some.injEq,Addr.mk.injEq,and_true] at e; obtain ⟨⟨rfl,rfl⟩,rfl,rfl⟩:=e; have:=U HON; rw [hdl1] at this; exact ⟨this.1,by omega⟩⟩
 generalize ((.slice (some (Q db (qH + 6))) dr.length (kw - 1)):Value) = vh at HV ⊢
 generalize hv6:Value.slice (some (Q db qH)) (dr.length + 1) kw = v166 at ⊢
 clear hv6
 all_goals clear h HDT HON
 all_goals
  have HM3:=H (ms_days (U xR) (U HV).1 (U HV).2 (U pC))
  have xN:Hid (Below B w (X0.setCell (Q cp 10) vh)):=zL (U xw) yb (U xR) 10 [vh]
  have uP:Hid (Bx (X0.setCell (Q cp 10) vh) w.heap.size (yw 9 ck A ct F cq ci O cg id xj qty xk xi)):=aO (U xI) (bA cp w.heap.size (by omega) [vh] 10 X0)
  clear xR xw xI HV
  change Code.wp _ _ _ _ (X0.setCell (Q cp 10) vh)
  generalize X0.setCell (Q cp 10) vh = xo at HM3 xN uP ⊢
  have xR:=HM3
  have xw:=xN
  have xI:=uP
  clear HM3 xN uP c10 q10 e0
  have uN:Hid (RdR Od.vs 6 xo (.slice (some (Q gb 0)) g.l.length cap) g.l):=zK (U xR).row (yO jh (by decide))
  refine zm (RAA (fun f=>{ tmps:=#[J cp 0,.agg (yw 9 ck A ct F cq ci O cg id xj qty xk xi).toArray,M,J w.heap.size 0,M,J cp 0,J cp 0,J cp 9,J w.heap.size 0,I 9,.bool false,.bool false,M,M,M,M,M,M,M,M,M,M,M,M,M,M,M,M,M,M,M,M,M,M,M,.bool false,.bool false,M,M,M,M,M,M,M,M,M,M,M,M,M,M,M,M,M,M,M,M,M,M,M,M,M,M,.bool false,.bool false,M,M,M,M,M,M,M,M,M,M,M,M,M,M,M,M,M,M,M,.bool false,.bool false,M,M,M,M,.bool false,.bool false,M,M,M,M,M,M,M,M,M,M,M,M,M,M,M,.bool false,.bool false,M,M,M,M,M,M,M,M,M,M,M,M,M,M,M,.bool false,.bool false,M,M,M,M,M,M,M,M,M,M,M,M,M,M,M,M,M,M,M,M,M,M,M,M,M,M,M,M,M,M,M,M,M,M,.bool true,.bool true,J cp 0,J cp 0,J cp 0,J cp 10,v166,vh,J cp 0,J cp 10,f 0,f 1,f 2,f 3,f 4,f 5,f 6,f 7,f 8,f 9,f 10,f 11,f 12,f 13,f 14],defers:=[] }) (fun j v=>∀ u,([some (J cp 0),some (J cp 0),some (J cp 0),some (J cp 1),some (.slice (some (Q gb 0)) g.l.length cap),some (J cp 0),some (J cp 0),some (J cp 1),some (.slice (some (Q gb 0)) g.l.length cap),some (J w.heap.size 9),some (I id),some (I k),none,some (J cp 0),some (J cp 1),none]:List (Option Value))[j]? = some (some u)→v = u) 12 15 (Q cp 1) (fun W v=>ORow W xo.heap.size v (g.l.take k ++ g.l.drop (k + 1))∧yp xo W) xo) (by kernel_rfl) ?_ ?_ ?_
  ·exact ⟨fun _=>M,rfl,⟨fun j V=>by rw [yJ] at V; split at V <;> simp at V,fun _=>⟨rfl,rfl,rfl,Nat.le_refl _,fun _ _=>rfl⟩,fun V=>by rw [yJ] at V; split at V <;> simp at V,fun V=>by rw [yJ] at V; split at V <;> simp at V⟩⟩
  ·rintro x cs h2 ⟨f,rfl,R⟩ hx xO
   have xq:=zN xO hx (acyc _ (by kernel_rfl))
   obtain ⟨W0,⟨Z,xz⟩,eY⟩:=R.z (xq 15 (by simp))
   have qd:=H (zv (U xR) xz)
   have xH:=H ((U xw).trans (xz.mono (U xR).base))
   have vr:=H (zS Z (U xR).base)
   clear R xq xO hx xz Z
   dsimp only
   generalize f 0 = v0,f 1 = v1,f 2 = v2,f 3 = v3,f 4 = v4,f 5 = v5,f 6 = v6,f 7 = v7,f 8 = v8,f 9 = v9,f 10 = v10,f 11 = v11
   generalize f 12 = v12 at *
   generalize f 13 = v13,f 14 = v14
   subst eY
   go_end0
   refine U qF _ v12 vh (zL (U xH) yb (U qd) 1 [v12]) ?_
   rw [U ug,(U ux).1,(U ux).2.1,(U ux).2.2]
   exact ms_list (U qd) (U vr) (fun h=>absurd h (U pC))
  ·rintro x cs hj i op ⟨f,rfl,R⟩ X hx Z xr D
   have xu:=H R
   have vo:i < 13→i ≠ 0→x[12]? = some false:=fun xJ h0=>by
    rcases br hx (show 12 < 16 by omega) with hq | uK
    ·exact hq
    ·exfalso
     have h4:=yh X 12 rfl uK 4 rfl
     have uR:=yh X 12 rfl uK 11 rfl
     have h3:=yh X 4 rfl h4 3 rfl
     have Y:=yh X 3 rfl h3 2 rfl
     have N:=yh X 2 rfl Y 1 rfl
     have h8:=yh X 11 rfl uR 8 rfl
     have uV:=yh X 11 rfl uR 10 rfl
     have h7:=yh X 8 rfl h8 7 rfl
     have h6:=yh X 7 rfl h7 6 rfl
     have h5:=yh X 6 rfl h6 5 rfl
     have h9:=yh X 10 rfl uV 9 rfl
     rcases (by omega:i = 1 ∨ i = 2 ∨ i = 3 ∨ i = 4 ∨ i = 5 ∨ i = 6 ∨ i = 7 ∨ i = 8 ∨ i = 9 ∨ i = 10 ∨ i = 11 ∨ i = 12) with rfl | rfl | rfl | rfl | rfl | rfl | rfl | rfl | rfl | rfl | rfl | rfl
     ·exact absurd (N.symm.trans xr) (by simp)
     ·exact absurd (Y.symm.trans xr) (by simp)
     ·exact absurd (h3.symm.trans xr) (by simp)
     ·exact absurd (h4.symm.trans xr) (by simp)
     ·exact absurd (h5.symm.trans xr) (by simp)
     ·exact absurd (h6.symm.trans xr) (by simp)
     ·exact absurd (h7.symm.trans xr) (by simp)
     ·exact absurd (h8.symm.trans xr) (by simp)
     ·exact absurd (h9.symm.trans xr) (by simp)
     ·exact absurd (uV.symm.trans xr) (by simp)
     ·exact absurd (uR.symm.trans xr) (by simp)
     ·exact absurd (uK.symm.trans xr) (by simp)
   have n15:x[12]? = some false→x[15]? = some false:=fun uK=>by
    rcases br hx (show 15 < 16 by omega) with hq | vR
    ·exact hq
    ·exact absurd ((yh X 15 rfl vR 12 rfl).symm.trans uK) (by simp)
   have xm:i < 13→i ≠ 0→∀ (p:Addr) u,xo.cell? p = some u→hj.cell? p = some u:=fun h h0 p u hu=>((R.b (vo h h0)).cell (yL xo _ hu)).trans hu
   match i,Z with
   | 0,Z | 1,Z | 5,Z =>
    obtain rfl:=yc Z
    clear D R xm vo n15
    rw [if_pos (by rfl)];unfold Oper.wp;go_simp
    exact ⟨upd f _ (J cp 0),by simp [upd],zX (U xu) _ _ (yj rfl) (by decide) (by decide)⟩
   | 2,Z =>
    obtain rfl:=yc Z
    have g1:=R.c 1 (yf D 1 rfl) _ rfl
    clear D R xm vo n15
    rw [if_pos (by rfl)];unfold Oper.wp;go_simp
    exact ⟨upd f 2 (J cp 0),by simp [upd,g1],zX (U xu) 2 _ (yj rfl) (by decide) (by decide)⟩
   | 3,Z =>
    obtain rfl:=yc Z
    have g2:=R.c 2 (yf D 2 rfl) _ rfl
    clear D R xm vo n15
    rw [if_pos (by rfl)];unfold Oper.wp;go_simp
    exact ⟨upd f 3 (J cp 1),by simp [upd,g2],zX (U xu) 3 _ (yj rfl) (by decide) (by decide)⟩
   | 4,Z =>
    obtain rfl:=yc Z
    have g3:=R.c 3 (yf D 3 rfl) _ rfl
    have z:=xm (by omega) (by omega) (Q cp 1) _ (K (U xR).box 1 rfl)
    clear D R xm vo n15
    rw [if_pos (by rfl)];unfold Oper.wp;go_simp
    exact ⟨upd f 4 (.slice (some (Q gb 0)) g.l.length cap),by simp [upd,g3],zX (U xu) 4 _ (yj rfl) (by decide) (by decide)⟩
   | 6,Z =>
    obtain rfl:=yc Z
    have g5:=R.c 5 (yf D 5 rfl) _ rfl
    clear D R xm vo n15
    rw [if_pos (by rfl)];unfold Oper.wp;go_simp
    exact ⟨upd f 6 (J cp 0),by simp [upd,g5],zX (U xu) 6 _ (yj rfl) (by decide) (by decide)⟩
   | 7,Z =>
    obtain rfl:=yc Z
    have g6:=R.c 6 (yf D 6 rfl) _ rfl
    clear D R xm vo n15
    rw [if_pos (by rfl)];unfold Oper.wp;go_simp
    exact ⟨upd f 7 (J cp 1),by simp [upd,g6],zX (U xu) 7 _ (yj rfl) (by decide) (by decide)⟩
   | 8,Z =>
    obtain rfl:=yc Z
    have g7:=R.c 7 (yf D 7 rfl) _ rfl
    have z:=xm (by omega) (by omega) (Q cp 1) _ (K (U xR).box 1 rfl)
    clear D R xm vo n15
    rw [if_pos (by rfl)];unfold Oper.wp;go_simp
    exact ⟨upd f 8 (.slice (some (Q gb 0)) g.l.length cap),by simp [upd,g7],zX (U xu) 8 _ (yj rfl) (by decide) (by decide)⟩
   | 9,Z =>
    obtain rfl:=yc Z
    clear D R xm vo n15
    rw [if_pos (by rfl)];unfold Oper.wp;go_simp
    exact ⟨upd f 9 (J w.heap.size 9),by simp [upd],zX (U xu) 9 _ (yj rfl) (by decide) (by decide)⟩
   | 10,Z =>
    obtain rfl:=yc Z
    have g9:=R.c 9 (yf D 9 rfl) _ rfl
    have z:=xm (by omega) (by omega) (Q w.heap.size 9) _ (K (U xI) 9 rfl)
    clear D R xm vo n15
    rw [if_pos (by rfl)];unfold Oper.wp;go_simp
    exact ⟨upd f 10 (I id),by simp [upd,g9],zX (U xu) 10 _ (yj rfl) (by decide) (by decide)⟩
   | 11,Z =>
    obtain rfl:=yc Z
    have g8:=R.c 8 (yf D 8 rfl) _ rfl
    have qn:=R.c 10 (yf D 10 rfl) _ rfl
    have kj:=vo (by omega) (by omega)
    have qz:=n15 kj
    have qC:=H (zh (U uN) (R.b kj) yb)
    clear D R xm vo n15
    rw [if_pos (by rfl)];unfold Oper.wp;go_simp
    refine (cX _ g.l id hj (U qC)).mono ?_
    rw [U jr]
    rintro e w4 ⟨rfl,xy⟩
    exact ⟨upd f 11 (I k),by simp [upd,g8,qn],zX (ra_grow (U xu) kj qz xy) 11 _ (yj rfl) (by decide) (by decide)⟩
   | 12,Z =>
    obtain rfl:=yc Z
    have g4:=R.c 4 (yf D 4 rfl) _ rfl
    have vE:=R.c 11 (yf D 11 rfl) _ rfl
    have qz:=n15 xr
    have vj:=R.b xr
    have qC:=H (zh (U uN) vj yb)
    have xE:=H vj
    clear D R xm vo n15 vj
    rw [if_pos (by rfl)];unfold Oper.wp;go_simp
    obtain ⟨a9,c9,e9,-,aC⟩:=U qC
    obtain ⟨b9,o9,uO,oG,hcl9⟩:=aC xD
    rw [uO] at e9
    simp only [Value.slice.injEq,Option.some.injEq,Addr.mk.injEq,and_true,true_and] at e9
    obtain ⟨⟨rfl,rfl⟩,rfl⟩:=e9
    refine (l04Drop_any gb 0 cap g.l k hj hcl9 oG oW uq (yO jh (by decide))).mono ?_
    rintro e w4 ⟨v9,rfl,kL,xy⟩
    exact ⟨upd f 12 v9,by simp [upd,g4,vE],ra_app (U xu) xr qz (by decide) (fun u hu=>by cases hu) ⟨zS kL (U xE).size,(U xE).trans (xy.mono (U xE).size)⟩⟩
   | 13,Z =>
    obtain rfl:=yc Z
    have g0:=R.c 0 (yf D 0 rfl) _ rfl
    clear D R xm vo n15
    rw [if_pos (by rfl)];unfold Oper.wp;go_simp
    exact ⟨upd f 13 (J cp 0),by simp [upd,g0],zX (U xu) 13 _ (yj rfl) (by decide) (by decide)⟩
   | 14,Z =>
    obtain rfl:=yc Z
    have qI:=R.c 13 (yf D 13 rfl) _ rfl
    clear D R xm vo n15
    rw [if_pos (by rfl)];unfold Oper.wp;go_simp
    exact ⟨upd f 14 (J cp 1),by simp [upd,qI],zX (U xu) 14 _ (yj rfl) (by decide) (by decide)⟩
   | 15,Z =>
    obtain rfl:=yc Z
    have je:=R.c 14 (yf D 14 rfl) _ rfl
    have kj:x[12]? = some true:=D ⟨12,.data⟩ (by simp) rfl
    obtain ⟨pX,vj⟩:=R.a kj xr
    have vI:=H (zv (U xR) vj)
    have y1:=K (U vI).box 1 rfl
    have q1:=zd (U vI).box 1 (by show 1 < 13; decide)
    obtain ⟨ga,gn,gc,ua⟩:∃ ga gn gc,f 12 = .slice ga gn gc:=by
     obtain ⟨ga,gc,ua⟩:=cd (zK pX (by simp; omega))
     exact ⟨ga,_,gc,ua⟩
    clear D R xm vo n15 pX vj
    rw [if_pos (by rfl)];unfold Oper.wp;go_simp
    refine ⟨f,by simp [je,ua],?_⟩
    have:=ra_store (U xu) kj xr (by decide) (fun v u hu=>by cases hu)
    rw [ua] at this
    exact this
   | i + 16,Z=>simp at Z
end Go.Proofs.YtnphbkgfjanmgaaGreatDoor
