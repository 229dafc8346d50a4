/-
  A trade done, by the model: proved by walking the method.
-/
import Derived.Test.YtnphbkgfjanmgaaGreatDoorBj38
set_option linter.unusedVariables false
set_option maxHeartbeats 6400000
set_option maxRecDepth 100000
namespace Go.Proofs.YtnphbkgfjanmgaaGreatDoor
open Go.RowKit
structure R3 (C:Nat→Value→Prop) (hj:Nat) (ta ev:Value) (us:List Value) (B0:World) (cs:List Od) (x:List Bool) (f:Nat→Value) (W:World):Prop where
 c:∀ j,x[j]? = some true→C j (f j)
 bel:x[24]? = some false→Below B0.heap.size B0 W
 m17:x[17]? = some true→∃ v,f 17 = .tuple #[v,ta,ev]∧(x[24]? = some false→ORow W B0.heap.size v cs)
 m18:x[18]? = some true→f 18 = f 17
 m19:x[19]? = some true→f 17 = .tuple #[f 19,ta,ev]
 z:x[24]? = some true→∃ W0,(ORow W0 B0.heap.size (f 19) cs∧Below B0.heap.size B0 W0)∧(x[27]? = some false→W = W0.setCell ⟨hj,1,none⟩ (f 19))∧(x[27]? = some true→W = World.setCells (W0.setCell ⟨hj,1,none⟩ (f 19)) hj 2 us)
def R3A (cl:(Nat→Value)→Act) (C:Nat→Value→Prop) (hj:Nat) (ta ev:Value) (us:List Value) (B0:World) (cs:List Od) (x:List Bool) (fG:Act) (W:World):Prop:=∃ f,fG = cl f∧R3 C hj ta ev us B0 cs x f W
section
variable {C:Nat→Value→Prop} {hj:Nat} {ta ev:Value} {us:List Value} {B0 W W':World} {cs:List Od} {x:List Bool} {f:Nat→Value}
theorem r3_grow (h:R3 C hj ta ev us B0 cs x f W) (n:x[24]? = some false) (Y:yn W W'):R3 C hj ta ev us B0 cs x f W' :=
 ⟨h.c,fun _=>(h.bel n).trans (Y.mono (h.bel n).size),fun a=>by
  obtain ⟨v,Q,E⟩:=h.m17 a
  exact ⟨v,Q,fun n=>zM (E n) Y⟩,h.m18,h.m19,fun a=>by rw [n] at a; cases a⟩
theorem bw (h:R3 C hj ta ev us B0 cs x f W) (i:Nat) (v:Value) (hv:C i v) (hi:i ≠ 17∧i ≠ 18∧i ≠ 19∧i ≠ 24∧i ≠ 27):R3 C hj ta ev us B0 cs (x.set i true) (upd f i v) W:=by
 obtain ⟨Q,h6,uS,uO,vQ⟩:=hi
 refine ⟨zB h.c hv,?_,?_,?_,?_,?_⟩ <;> simp only [gq Q,gq h6,gq uS,gq uO,gq vQ,zl f v Q.symm,zl f v h6.symm,zl f v uS.symm]
 ·exact h.bel
 ·exact h.m17
 ·exact h.m18
 ·exact h.m19
 ·exact h.z
theorem r3_17 (h:R3 C hj ta ev us B0 cs x f W) (n:x[24]? = some false) (n18:x[18]? = some false) (n19:x[19]? = some false) (hc:∀ v,C 17 v) {v:Value} (N:ORow W' B0.heap.size v cs) (Y:yn W W'):R3 C hj ta ev us B0 cs (x.set 17 true) (upd f 17 (.tuple #[v,ta,ev])) W':=by
 have hg:=r3_grow h n Y
 refine ⟨zB hg.c (hc _),fun _=>hg.bel n,fun _=>⟨v,zr _ _ _,fun _=>N⟩,?_,?_,?_⟩
 ·intro e; rw [gq (by decide),n18] at e; cases e
 ·intro e; rw [gq (by decide),n19] at e; cases e
 ·intro e; rw [gq (by decide),n] at e; cases e
theorem r3_18 (h:R3 C hj ta ev us B0 cs x f W) (hc:∀ v,C 18 v):R3 C hj ta ev us B0 cs (x.set 18 true) (upd f 18 (f 17)) W:=by
 refine ⟨zB h.c (hc _),?_,?_,fun _=>?_,?_,?_⟩
 ·rw [gq (by decide)]; exact h.bel
 ·rw [gq (by decide),gq (by decide),zl _ _ (by decide)]; exact h.m17
 ·rw [zr,zl _ _ (by decide)]
 ·rw [gq (by decide),zl _ _ (by decide),zl _ _ (by decide)]; exact h.m19
 ·rw [gq (by decide),gq (by decide),zl _ _ (by decide)]; exact h.z
theorem r3_19 (h:R3 C hj ta ev us B0 cs x f W) (n:x[24]? = some false) (hc:∀ v,C 19 v) {v:Value} (hv:f 17 = .tuple #[v,ta,ev]):R3 C hj ta ev us B0 cs (x.set 19 true) (upd f 19 v) W:=by
 refine ⟨zB h.c (hc _),?_,?_,?_,fun _=>?_,?_⟩
 ·rw [gq (by decide)]; exact h.bel
 ·rw [gq (by decide),gq (by decide),zl _ _ (by decide)]; exact h.m17
 ·rw [gq (by decide),zl _ _ (by decide),zl _ _ (by decide)]; exact h.m18
 ·rw [zr,zl _ _ (by decide)]; exact hv
 ·intro e; rw [gq (by decide),n] at e; cases e
theorem r3_row (h:R3 C hj ta ev us B0 cs x f W) (n:x[24]? = some false) (qZ:x[17]? = some true) (h19:x[19]? = some true):ORow W B0.heap.size (f 19) cs:=by
 obtain ⟨v,Q,E⟩:=h.m17 qZ
 have h3:=h.m19 h19
 rw [Q] at h3
 simp only [Value.tuple.injEq,Array.mk.injEq,List.cons.injEq,and_true] at h3
 rw [← h3]
 exact E n
theorem r3_24 (h:R3 C hj ta ev us B0 cs x f W) (n:x[24]? = some false) (n27:x[27]? = some false) (qZ:x[17]? = some true) (h19:x[19]? = some true) (hc:∀ v,C 24 v):R3 C hj ta ev us B0 cs (x.set 24 true) f (W.setCell (U hj 1) (f 19)):=by
 refine ⟨fun j O=>?_,?_,fun _=>?_,?_,?_,fun _=>⟨W,⟨r3_row h n qZ h19,h.bel n⟩,fun _=>rfl,fun e=>?_⟩⟩
 ·by_cases hjm:j = 24
  ·subst hjm; exact hc _
  ·rw [gq (fun e=>hjm e.symm)] at O; exact h.c j O
 ·intro e; rw [gqs n] at e; cases e
 ·obtain ⟨v,Q,_⟩:=h.m17 qZ
  exact ⟨v,Q,fun e=>by rw [gqs n] at e; cases e⟩
 ·rw [gq (by decide)]; exact h.m18
 ·rw [gq (by decide)]; exact h.m19
 ·rw [gq (by decide),n27] at e; cases e
theorem r3_27 (h:R3 C hj ta ev us B0 cs x f W) (n27:x[27]? = some false) (h24:x[24]? = some true) (hc:∀ v,C 27 v):R3 C hj ta ev us B0 cs (x.set 27 true) f (World.setCells W hj 2 us):=by
 obtain ⟨W0,hA,Q,_⟩:=h.z h24
 refine ⟨fun j O=>?_,?_,fun e=>?_,?_,?_,fun _=>⟨W0,hA,fun e=>?_,fun _=>?_⟩⟩
 ·by_cases hjm:j = 27
  ·subst hjm; exact hc _
  ·rw [gq (fun e=>hjm e.symm)] at O; exact h.c j O
 ·intro e; rw [gq (by decide),h24] at e; cases e
 ·rw [gq (by decide)] at e
  obtain ⟨v,Q,_⟩:=h.m17 e
  exact ⟨v,Q,fun e=>by rw [gq (by decide),h24] at e; cases e⟩
 ·rw [gq (by decide)]; exact h.m18
 ·rw [gq (by decide)]; exact h.m19
 ·rw [gqs n27] at e; cases e
 ·rw [Q n27]
end
theorem take_3 {hj B:Nat} {vl vd va:Value} {g:Gr} {t:Od} {kd n0:Int} {dy l0:List Od} (ck L ct F cq ci:Int) (X:Nat) (cg:ByteArray) (id xi qty xj xh:Int) (w:World) (h:MS hj B w vl vd va g t kd n0 dy l0) (hi:GI g) (hm:MR g t kd dy) (he:okE ⟨3,⟨ck,L,ct,F,cq,ci,X,cg⟩,id,xi,qty,xj,xh⟩ = true) (hr:zD g ⟨3,⟨ck,L,ct,F,cq,ci,X,cg⟩,id,xi,qty,xj,xh⟩ = 0):Calls Tryz.prog 52 #[J hj 0,.agg (yv 3 ck L ct F cq ci X cg id xi qty xj xh).toArray] w fun x w'=>TakE hj B va n0 l0 g t kd dy ⟨3,⟨ck,L,ct,F,cq,ci,X,cg⟩,id,xi,qty,xj,xh⟩ w x w':=by
 have hsf:=sfl
 have hO:=h.lt
 have vV:=h.base
 have qm:Hid (∀ w' vS vh,Below B w w'→MS hj B w' vS vh va (aQ g ⟨3,⟨ck,L,ct,F,cq,ci,X,cg⟩,id,xi,qty,xj,xh⟩) (tkM g t ⟨3,⟨ck,L,ct,F,cq,ci,X,cg⟩,id,xi,qty,xj,xh⟩) (kdM kd ⟨3,⟨ck,L,ct,F,cq,ci,X,cg⟩,id,xi,qty,xj,xh⟩) n0 (dyM g dy ⟨3,⟨ck,L,ct,F,cq,ci,X,cg⟩,id,xi,qty,xj,xh⟩) l0→TakE hj B va n0 l0 g t kd dy ⟨3,⟨ck,L,ct,F,cq,ci,X,cg⟩,id,xi,qty,xj,xh⟩ w (.returned (.tuple #[])) w'):=fun w' vS vh Q E=>⟨rfl,Q,vS,vh,E⟩
 obtain ⟨Q,jH,o,kf,-,uj,pf,hqt,-⟩:=rule3 (e:=⟨3,⟨ck,L,ct,F,cq,ci,X,cg⟩,id,xi,qty,xj,xh⟩) rfl hr
 simp only at uj pf hqt
 have kU:t = g.tk:=hm.same jH
 have kH:=hi.good (.inr jH)
 obtain ⟨k,uX⟩:∃ k:Nat,g.l[k]? = some o:=List.getElem?_of_mem (dD kf).1
 have uQ:plc g.l xi = k:=by rw [pf]; exact cD kH.rise uX
 have uh:Hid (aQ g ⟨3,⟨ck,L,ct,F,cq,ci,X,cg⟩,id,xi,qty,xj,xh⟩ = { g with l:=(aR g.l k o qty),tk:={ g.tk with left:=g.tk.left - qty } }):=by show _ = _; rw [step3 rfl]; simp only [begG,cM uQ uX]; rw [if_neg (by omega)]
 have ux:Hid (tkM g t ⟨3,⟨ck,L,ct,F,cq,ci,X,cg⟩,id,xi,qty,xj,xh⟩ = { t with left:=t.left - qty }∧kdM kd ⟨3,⟨ck,L,ct,F,cq,ci,X,cg⟩,id,xi,qty,xj,xh⟩ = kd∧dyM g dy ⟨3,⟨ck,L,ct,F,cq,ci,X,cg⟩,id,xi,qty,xj,xh⟩ = dy):=⟨rfl,rfl,rfl⟩
 have HQ:Hid (min t.left o.left = qty):=by show _ = _; rw [kU,hqt]
 have xD:g.l ≠ []:=by intro h; rw [h] at uX; simp at uX
 obtain ⟨gb,cap,rfl,uq,hBg,hgw⟩:=cI h.row xD
 have jk:=hi.len
 have HIO:=M uX
 have hbo:=kH.left o (dD kf).1
 have HTL:Hid (0 ≤ t.left∧t.left ≤ 1000000∧0 ≤ o.left∧o.left ≤ 1000000):=by have:=hi.l0; have:=hi.l1; rw [kU]; exact ⟨by omega,by omega,by omega,by omega⟩
 have jt:=M uQ
 have hbn:(g.bg != 0) = true:=by simp [Q]
 have pG:Hid (g.bg ≠ 0):=by show _ ≠ _; omega
 have HLN:Hid ((aR g.l k o qty).length ≤ 1073741824):=by
  show _ ≤ _
  unfold aR
  split
  ·simp; omega
  ·simp; omega
 clear Q jH kf uj pf hqt kU kH uQ uX hbo
 generalize TakE hj B va n0 l0 g t kd dy ⟨3,⟨ck,L,ct,F,cq,ci,X,cg⟩,id,xi,qty,xj,xh⟩ w = C at qm ⊢
 obtain ⟨xz,HX⟩:=fJ w (yv 3 ck L ct F cq ci X cg id xi qty xj xh) 52
 have HM:=M (zv h xz)
 have HB:=M (xz.mono vV)
 clear h xz hi hm he hr
 go_enter Tryz.func52,Tryz.ntmps52
 refine fI fun hR HK=>?_
 go_wp2_with fail
 refine H HK _ _ ?_
 clear HK
 generalize (w.alloc (A (yv 3 ck L ct F cq ci X cg id xi qty xj xh).toArray 52)) = W1 at HX HM HB ⊢
 have c9:=R (H HM).box 9 rfl
 have q9:=zd (H HM).box 9 (by show 9 < 13; decide)
 have xu:Hid (Below B w (World.setCells W1 hj 9 [.bool true])):=zL (H HB) ya (H HM) 9 _
 have xQ:Hid (MS hj B (World.setCells W1 hj 9 [.bool true]) (.slice (some (U gb 0)) g.l.length cap) vd va g t kd n0 dy l0):=bQ (H HM) 9 [.bool true] (by simp) (by simp [msV,hbn]) rfl (fun h=>absurd h (H pG))
 have xH:Hid (Bx (World.setCells W1 hj 9 [.bool true]) w.heap.size (yv 3 ck L ct F cq ci X cg id xi qty xj xh)):=aS (H HX) (bG hj w.heap.size (by omega) _ 9 W1)
 clear HX HM HB hbn
 refine fI fun hR HK=>?_
 go_wp2_with fail
 refine H HK _ _ ?_
 clear HK
 change Code.wp _ _ _ _ (World.setCells W1 hj 9 [.bool true])
 generalize World.setCells W1 hj 9 [.bool true] = cp at xu xQ xH ⊢
 have uR:Hid (RdR Od.vs 6 cp (.slice (some (U gb 0)) g.l.length cap) g.l):=zK (H xQ).row (yN jk (by decide))
 have hSX:w.heap.size < cp.heap.size:=yK _ _ (R (H xH) 0 rfl)
 have e0:=R (H xH) 0 rfl
 clear c9 q9
 go_wp2_with fail
 refine zk (R3A (fun f=>{ tmps:=#[J hj 0,.agg (yv 3 ck L ct F cq ci X cg id xi qty xj xh).toArray,Z,J w.heap.size 0,Z,J hj 0,J hj 0,J hj 9,J w.heap.size 0,I 3,.bool false,.bool false,Z,Z,Z,Z,Z,Z,Z,Z,Z,Z,Z,Z,Z,Z,Z,Z,Z,Z,Z,Z,Z,Z,Z,.bool true,.bool true,f 18,f 0,f 1,f 2,f 3,f 4,f 5,f 6,f 7,f 8,f 9,f 10,f 11,f 12,f 13,f 14,f 15,f 16,f 17,f 19,f 20,f 21,f 22,f 23,f 25,f 26,Z,Z,Z,Z,Z,Z,Z,Z,Z,Z,Z,Z,Z,Z,Z,Z,Z,Z,Z,Z,Z,Z,Z,Z,Z,Z,Z,Z,Z,Z,Z,Z,Z,Z,Z,Z,Z,Z,Z,Z,Z,Z,Z,Z,Z,Z,Z,Z,Z,Z,Z,Z,Z,Z,Z,Z,Z,Z,Z,Z,Z,Z,Z,Z,Z,Z,Z,Z,Z,Z,Z,Z,Z,Z,Z,Z,Z,Z,Z,Z,Z,Z,Z,Z,Z,Z,Z,Z,Z,Z,Z,Z,Z,Z,Z,Z,Z,Z,Z,Z,Z,Z,Z,Z,Z,Z,Z,Z,Z,Z,Z,Z,Z,Z,Z,Z,Z,Z,Z,Z,Z,Z],defers:=[] }) (fun j v=>∀ u,([some (J hj 0),some (J hj 0),some (J hj 0),some (J hj 0),some (J hj 1),some (.slice (some (U gb 0)) g.l.length cap),some (J hj 0),some (J hj 0),some (J hj 2),some (.agg (yw t.id t.side t.ticks t.left t.life t.tag).toArray),some (J hj 0),some (J hj 0),some (J hj 1),some (.slice (some (U gb 0)) g.l.length cap),some (J w.heap.size 10),some (I xi),some (I k),none,none,none,some (.agg (yw t.id t.side t.ticks (t.left - qty) t.life t.tag).toArray),some (.agg (Ev.vs (trE t.id o.id qty o.ticks)).toArray),some (J hj 0),some (J hj 1),none,some (J hj 0),some (J hj 2),none]:List (Option Value))[j]? = some (some u)→v = u) hj (.agg (yw t.id t.side t.ticks (t.left - qty) t.life t.tag).toArray) (.agg (Ev.vs (trE t.id o.id qty o.ticks)).toArray) (yw t.id t.side t.ticks (t.left - qty) t.life t.tag) cp (aR g.l k o qty)) (by kernel_rfl) ?_ ?_ ?_
 ·have vL:∀ j,(List.replicate 28 false)[j]? = some true→False:=fun j O=>by rw [yI] at O; split at O <;> simp at O
  exact ⟨fun _=>Z,rfl,⟨fun j O=>(vL j O).elim,fun _=>⟨rfl,rfl,rfl,Nat.le_refl _,fun _ _=>rfl⟩,fun h=>(vL _ h).elim,fun h=>(vL _ h).elim,fun h=>(vL _ h).elim,fun h=>(vL _ h).elim⟩⟩
 ·rintro x fG hb ⟨f,rfl,K⟩ hx xN
  have xo:=bT xN hx (by kernel_rfl)
  obtain ⟨W0,⟨N,xz⟩,-,eY⟩:=K.z (xo 24 (by simp))
  have eY:=eY (xo 27 (by simp))
  have qd:=M (zv (H xQ) xz)
  have xG:=M ((H xu).trans (xz.mono (H xQ).base))
  have vv:=M (zS N (H xQ).base)
  clear K xo xN hx xz N
  dsimp only
  generalize f 0 = v0,f 1 = v1,f 2 = v2,f 3 = v3,f 4 = v4,f 5 = v5,f 6 = v6,f 7 = v7,f 8 = v8,f 9 = v9,f 10 = v10,f 11 = v11,f 12 = v12,f 13 = v13,f 14 = v14,f 15 = v15,f 16 = v16,f 17 = v17,f 18 = v18
  generalize f 19 = v19 at *
  generalize f 20 = v20,f 21 = v21,f 22 = v22,f 23 = v23,f 25 = v25,f 26 = v26
  have vz:Hid (MS hj B (W0.setCell (U hj 1) v19) v19 vd va { g with l:=(aR g.l k o qty) } t kd n0 dy l0):=ms_list (H qd) (H vv) (fun h=>absurd h (H pG))
  have ug:Hid (Below B w (W0.setCell (U hj 1) v19)):=zL (H xG) ya (H qd) 1 [v19]
  subst eY
  go_end0
  refine H qm _ v19 vd (zL (H ug) ya (H vz) 2 (yw t.id t.side t.ticks (t.left - qty) t.life t.tag)) ?_
  rw [H uh,(H ux).1,(H ux).2.1,(H ux).2.2]
  exact bQ (H vz) 2 (yw t.id t.side t.ticks (t.left - qty) t.life t.tag) (by simp) rfl rfl (fun h=>absurd h (H pG))
 ·rintro x fG xn i op ⟨f,rfl,K⟩ V hx N xq D
  have xt:=M K
  match i,N with
  | 0,N | 1,N | 2,N | 6,N | 10,N =>
   obtain rfl:=yb N
   clear D K V
   rw [if_pos (by rfl)];unfold Oper.wp;go_simp
   exact ⟨upd f _ (J hj 0),by simp [upd],bw (H xt) _ _ (yi rfl) (by decide)⟩
  | 3,N =>
   obtain rfl:=yb N
   have g2:=K.c 2 (ye D 2 rfl) _ rfl
   clear D K V
   rw [if_pos (by rfl)];unfold Oper.wp;go_simp
   exact ⟨upd f 3 (J hj 0),by simp [upd,g2],bw (H xt) 3 _ (yi rfl) (by decide)⟩
  | 4,N =>
   obtain rfl:=yb N
   have g3:=K.c 3 (ye D 3 rfl) _ rfl
   clear D K V
   rw [if_pos (by rfl)];unfold Oper.wp;go_simp
   exact ⟨upd f 4 (J hj 1),by simp [upd,g3],bw (H xt) 4 _ (yi rfl) (by decide)⟩
  | 5,N =>
   obtain rfl:=yb N
   have g4:=K.c 4 (ye D 4 rfl) _ rfl
   have oS:x[24]? = some false:=zU V 28 5 24 (by kernel_rfl) hx (by simp) xq
   have jV:=M (zv (H xQ) (K.bel oS))
   have z1:=R (H jV).box 1 rfl
   clear D K V
   rw [if_pos (by rfl)];unfold Oper.wp;go_simp
   exact ⟨upd f 5 (.slice (some (U gb 0)) g.l.length cap),by simp [upd,g4],bw (H xt) 5 _ (yi rfl) (by decide)⟩
  | 7,N =>
   obtain rfl:=yb N
   have g6:=K.c 6 (ye D 6 rfl) _ rfl
   clear D K V
   rw [if_pos (by rfl)];unfold Oper.wp;go_simp
   exact ⟨upd f 7 (J hj 0),by simp [upd,g6],bw (H xt) 7 _ (yi rfl) (by decide)⟩
  | 8,N =>
   obtain rfl:=yb N
   have g7:=K.c 7 (ye D 7 rfl) _ rfl
   clear D K V
   rw [if_pos (by rfl)];unfold Oper.wp;go_simp
   exact ⟨upd f 8 (J hj 2),by simp [upd,g7],bw (H xt) 8 _ (yi rfl) (by decide)⟩
  | 9,N =>
   obtain rfl:=yb N
   have g8:=K.c 8 (ye D 8 rfl) _ rfl
   have oS:x[24]? = some false:=zU V 28 9 24 (by kernel_rfl) hx (by simp) xq
   have jV:=M (zv (H xQ) (K.bel oS))
   have z2:=R (H jV).box 2 rfl
   have z3:=R (H jV).box 3 rfl
   have z4:=R (H jV).box 4 rfl
   have z5:=R (H jV).box 5 rfl
   have z6:=R (H jV).box 6 rfl
   have z7:=R (H jV).box 7 rfl
   clear D K V
   rw [if_pos (by rfl)];unfold Oper.wp;go_simp
   exact ⟨upd f 9 (.agg (yw t.id t.side t.ticks t.left t.life t.tag).toArray),by simp [upd,g8],bw (H xt) 9 _ (yi rfl) (by decide)⟩
  | 11,N =>
   obtain rfl:=yb N
   have qp:=K.c 10 (ye D 10 rfl) _ rfl
   clear D K V
   rw [if_pos (by rfl)];unfold Oper.wp;go_simp
   exact ⟨upd f 11 (J hj 0),by simp [upd,qp],bw (H xt) 11 _ (yi rfl) (by decide)⟩
  | 12,N =>
   obtain rfl:=yb N
   have vE:=K.c 11 (ye D 11 rfl) _ rfl
   clear D K V
   rw [if_pos (by rfl)];unfold Oper.wp;go_simp
   exact ⟨upd f 12 (J hj 1),by simp [upd,vE],bw (H xt) 12 _ (yi rfl) (by decide)⟩
  | 13,N =>
   obtain rfl:=yb N
   have xZ:=K.c 12 (ye D 12 rfl) _ rfl
   have oS:x[24]? = some false:=zU V 28 13 24 (by kernel_rfl) hx (by simp) xq
   have jV:=M (zv (H xQ) (K.bel oS))
   have z1:=R (H jV).box 1 rfl
   clear D K V
   rw [if_pos (by rfl)];unfold Oper.wp;go_simp
   exact ⟨upd f 13 (.slice (some (U gb 0)) g.l.length cap),by simp [upd,xZ],bw (H xt) 13 _ (yi rfl) (by decide)⟩
  | 14,N =>
   obtain rfl:=yb N
   clear D K V
   rw [if_pos (by rfl)];unfold Oper.wp;go_simp
   exact ⟨upd f 14 (J w.heap.size 10),by simp [upd],bw (H xt) 14 _ (yi rfl) (by decide)⟩
  | 15,N =>
   obtain rfl:=yb N
   have jf:=K.c 14 (ye D 14 rfl) _ rfl
   have oS:x[24]? = some false:=zU V 28 15 24 (by kernel_rfl) hx (by simp) xq
   have kX:=R (zg (H xH) (K.bel oS) hSX) 10 rfl
   clear D K V
   rw [if_pos (by rfl)];unfold Oper.wp;go_simp
   exact ⟨upd f 15 (I xi),by simp [upd,jf],bw (H xt) 15 _ (yi rfl) (by decide)⟩
  | 16,N =>
   obtain rfl:=yb N
   have qJ:=K.c 13 (ye D 13 rfl) _ rfl
   have g15:=K.c 15 (ye D 15 rfl) _ rfl
   have oS:x[24]? = some false:=zU V 28 16 24 (by kernel_rfl) hx (by simp) xq
   have ql:=M (zh (H uR) (K.bel oS) ya)
   clear D K V
   rw [if_pos (by rfl)];unfold Oper.wp;go_simp
   refine (du _ g.l xi xn (H ql)).mono ?_
   rw [H jt]
   rintro e w4 ⟨rfl,xw⟩
   exact ⟨upd f 16 (I k),by simp [upd,qJ,g15],bw (r3_grow (H xt) oS xw) 16 _ (yi rfl) (by decide)⟩
  | 17,N =>
   obtain rfl:=yb N
   have oS:x[24]? = some false:=zU V 28 17 24 (by kernel_rfl) hx (by simp) xq
   have g5:=K.c 5 (ye D 5 rfl) _ rfl
   have g9:=K.c 9 (ye D 9 rfl) _ rfl
   have g16:=K.c 16 (ye D 16 rfl) _ rfl
   have k18:x[18]? = some false:=zU V 28 17 18 (by kernel_rfl) hx (by simp) xq
   have k19:x[19]? = some false:=zU V 28 17 19 (by kernel_rfl) hx (by simp) xq
   have vn:=K.bel oS
   have ql:=M (zh (H uR) vn ya)
   have HSV:=M vn.size
   obtain ⟨a0,a1,a2,a3⟩:=H HTL
   have HHT:=M (l04Hit_any _ g.l t o k xn (H ql) (yN jk (by decide)) (H HIO) a0 a1 a2 a3)
   rw [H HQ] at HHT
   clear D K V vn a0 a1 a2 a3
   rw [if_pos (by rfl)];unfold Oper.wp;go_simp
   refine (H HHT).mono ?_
   rintro e w4 ⟨v9,rfl,kO,xw⟩
   exact ⟨upd f 17 (.tuple #[v9,.agg (yw t.id t.side t.ticks (t.left - qty) t.life t.tag).toArray,.agg (Ev.vs (trE t.id o.id qty o.ticks)).toArray]),by simp [upd,g5,g9,g16,Od.vs],r3_17 (H xt) oS k18 k19 (fun v u hu=>by cases hu) (zS kO (H HSV)) xw⟩
  | 18,N =>
   obtain rfl:=yb N
   clear D K V
   rw [if_pos (by rfl)];unfold Oper.wp;go_simp
   exact ⟨upd f 18 (f 17),by simp [upd],r3_18 (H xt) (fun v u hu=>by cases hu)⟩
  | 19,N =>
   obtain rfl:=yb N
   have oS:x[24]? = some false:=zU V 28 19 24 (by kernel_rfl) hx (by simp) xq
   have pm:x[17]? = some true:=yf V 18 rfl (ye D 18 rfl) 17 rfl
   obtain ⟨v9,e9,-⟩:=K.m17 pm
   have g18:f 18 = .tuple #[v9,.agg (yw t.id t.side t.ticks (t.left - qty) t.life t.tag).toArray,.agg (Ev.vs (trE t.id o.id qty o.ticks)).toArray]:=(K.m18 (ye D 18 rfl)).trans e9
   clear D K V
   rw [if_pos (by rfl)];unfold Oper.wp;go_simp
   exact ⟨upd f 19 (v9),by simp [upd,g18,e9],r3_19 (H xt) oS (fun v u hu=>by cases hu) e9⟩
  | 20,N =>
   obtain rfl:=yb N
   have pm:x[17]? = some true:=yf V 18 rfl (ye D 18 rfl) 17 rfl
   obtain ⟨v9,e9,-⟩:=K.m17 pm
   have g18:f 18 = .tuple #[v9,.agg (yw t.id t.side t.ticks (t.left - qty) t.life t.tag).toArray,.agg (Ev.vs (trE t.id o.id qty o.ticks)).toArray]:=(K.m18 (ye D 18 rfl)).trans e9
   clear D K V
   rw [if_pos (by rfl)];unfold Oper.wp;go_simp
   exact ⟨upd f 20 (.agg (yw t.id t.side t.ticks (t.left - qty) t.life t.tag).toArray),by simp [upd,g18,e9],bw (H xt) 20 _ (yi rfl) (by decide)⟩
  | 21,N =>
   obtain rfl:=yb N
   have pm:x[17]? = some true:=yf V 18 rfl (ye D 18 rfl) 17 rfl
   obtain ⟨v9,e9,-⟩:=K.m17 pm
   have g18:f 18 = .tuple #[v9,.agg (yw t.id t.side t.ticks (t.left - qty) t.life t.tag).toArray,.agg (Ev.vs (trE t.id o.id qty o.ticks)).toArray]:=(K.m18 (ye D 18 rfl)).trans e9
   clear D K V
   rw [if_pos (by rfl)];unfold Oper.wp;go_simp
   exact ⟨upd f 21 (.agg (Ev.vs (trE t.id o.id qty o.ticks)).toArray),by simp [upd,g18,e9],bw (H xt) 21 _ (yi rfl) (by decide)⟩
  | 22,N =>
   obtain rfl:=yb N
   have g0:=K.c 0 (ye D 0 rfl) _ rfl
   clear D K V
   rw [if_pos (by rfl)];unfold Oper.wp;go_simp
   exact ⟨upd f 22 (J hj 0),by simp [upd,g0],bw (H xt) 22 _ (yi rfl) (by decide)⟩
  | 23,N =>
   obtain rfl:=yb N
   have g22:=K.c 22 (ye D 22 rfl) _ rfl
   clear D K V
   rw [if_pos (by rfl)];unfold Oper.wp;go_simp
   exact ⟨upd f 23 (J hj 1),by simp [upd,g22],bw (H xt) 23 _ (yi rfl) (by decide)⟩
  | 24,N =>
   obtain rfl:=yb N
   have g23:=K.c 23 (ye D 23 rfl) _ rfl
   have k19:x[19]? = some true:=D ⟨19,.data⟩ (by simp) rfl
   have pm:x[17]? = some true:=V 18 _ rfl (yf V 19 rfl k19 18 rfl) ⟨17,.data⟩ (by simp) rfl
   have k27:x[27]? = some false:=zU V 28 24 27 (by kernel_rfl) hx (by simp) xq
   have vI:=M (zv (H xQ) (K.bel xq))
   have y1:=R (H vI).box 1 rfl
   have q1:=zd (H vI).box 1 (by show 1 < 13; decide)
   obtain ⟨ga,gc,g19⟩:=cA (zK (r3_row K xq pm k19) (H HLN))
   generalize (aR g.l k o qty).length = gn at g19
   clear D K V
   rw [if_pos (by rfl)];unfold Oper.wp;go_simp
   refine ⟨f,by simp [g23,g19],?_⟩
   have:=r3_24 (H xt) xq k27 pm k19 (fun v u hu=>by cases hu)
   rw [g19] at this
   exact this
  | 25,N =>
   obtain rfl:=yb N
   have g1:=K.c 1 (ye D 1 rfl) _ rfl
   clear D K V
   rw [if_pos (by rfl)];unfold Oper.wp;go_simp
   exact ⟨upd f 25 (J hj 0),by simp [upd,g1],bw (H xt) 25 _ (yi rfl) (by decide)⟩
  | 26,N =>
   obtain rfl:=yb N
   have g25:=K.c 25 (ye D 25 rfl) _ rfl
   clear D K V
   rw [if_pos (by rfl)];unfold Oper.wp;go_simp
   exact ⟨upd f 26 (J hj 2),by simp [upd,g25],bw (H xt) 26 _ (yi rfl) (by decide)⟩
  | 27,N =>
   obtain rfl:=yb N
   have g26:=K.c 26 (ye D 26 rfl) _ rfl
   have g20:=K.c 20 (ye D 20 rfl) _ rfl
   have oS:x[24]? = some true:=D ⟨24,.chain⟩ (by simp) rfl
   obtain ⟨W0,⟨kO,oK⟩,eV,-⟩:=K.z oS
   have eV:=eV xq
   have vI:Hid (MS hj B xn (f 19) vd va { g with l:=(aR g.l k o qty) } t kd n0 dy l0):=by
    show MS hj B xn (f 19) vd va { g with l:=(aR g.l k o qty) } t kd n0 dy l0
    rw [eV]
    exact ms_list (zv (H xQ) oK) (zS kO (H xQ).base) (fun h=>absurd h (H pG))
   have c2:=R (H vI).box 2 rfl
   have q2:=zd (H vI).box 2 (by show 2 < 13; decide)
   have c3:=R (H vI).box 3 rfl
   have q3:=zd (H vI).box 3 (by show 3 < 13; decide)
   have c4:=R (H vI).box 4 rfl
   have q4:=zd (H vI).box 4 (by show 4 < 13; decide)
   have c5:=R (H vI).box 5 rfl
   have q5:=zd (H vI).box 5 (by show 5 < 13; decide)
   have c6:=R (H vI).box 6 rfl
   have q6:=zd (H vI).box 6 (by show 6 < 13; decide)
   have c7:=R (H vI).box 7 rfl
   have q7:=zd (H vI).box 7 (by show 7 < 13; decide)
   clear D K V eV kO oK
   rw [if_pos (by rfl)];unfold Oper.wp;go_simp
   exact ⟨f,by simp [g26,g20],r3_27 (H xt) xq oS (fun v u hu=>by cases hu)⟩
  | i + 28,N=>simp at N
theorem rd_tail {W:World} {db qI kA:Nat} {o:Od} {dr:List Od} (h:RdR Od.vs 6 W (.slice (some (U db qI)) (o :: dr).length kA) (o :: dr)) (hcp:(o :: dr).length ≤ kA):RdR Od.vs 6 W (.slice (some (U db (qI + 6))) dr.length (kA - 1)) dr∧(kA - 1 = 0→RdR Od.vs 6 W (.slice (some (U db qI)) dr.length 0) dr):=by
 obtain ⟨a,cap,e,hl,hc⟩:=h
 simp only [Value.slice.injEq,true_and] at e
 obtain ⟨rfl,rfl⟩:=e
 simp only [List.length_cons] at hl hcp
 refine ⟨⟨_,_,rfl,by omega,fun xD=>?_⟩,fun h0=>⟨_,_,rfl,by omega,fun xD=>?_⟩⟩
 ·obtain ⟨b,off,e2,Y,V⟩:=hc (by simp)
  simp only [Option.some.injEq,Addr.mk.injEq,and_true] at e2
  obtain ⟨rfl,rfl⟩:=e2
  refine ⟨_,_,rfl,Y,fun j c O i u hi=>?_⟩
  have:=V (j + 1) c (by simpa using O) i u hi
  rw [show qI + (j + 1) * 6 + i = qI + 6 + j * 6 + i by omega] at this
  exact this
 ·exfalso
  cases dr with
  | nil=>exact xD rfl
  | cons a b=>simp only [List.length_cons] at hcp; omega
theorem ms_days {hj B:Nat} {W:World} {vl vd vh va:Value} {g:Gr} {t:Od} {kd n0:Int} {dy dy' l0:List Od} (h:MS hj B W vl vd va g t kd n0 dy l0) (hd:RdR Od.vs 6 W vh dy') (hn:dy' ≠ []→∀ b off n c,vh = .slice (some (U b off)) n c→b ≠ hj∧n ≤ c) (hq:g.bg ≠ 0):MS hj B (W.setCell (U hj 10) vh) vl vh va g t kd n0 dy' l0 :=
 ⟨bd h.box (by show 10 < 13; decide),dX h.nl [vh] 10 W h.row,cZ (us:=[vh]) (o:=10) hd (fun xD b off n c e=>(hn xD b off n c e).1),cZ (us:=[vh]) (o:=10) h.ahd (fun xD b' off n c e=>by have:=h.na xD b' off n c e; have:=h.hO; omega),h.sla,dS [vh] 10 W h.typ,h.hO,fun h=>absurd h hq,hn,h.na⟩
theorem take_9 {hj B:Nat} {vl vd va:Value} {g:Gr} {t:Od} {kd n0:Int} {dy l0:List Od} (ck L ct F cq ci:Int) (X:Nat) (cg:ByteArray) (id xi qty xj xh:Int) (w:World) (h:MS hj B w vl vd va g t kd n0 dy l0) (hi:GI g) (hm:MR g t kd dy) (he:okE ⟨9,⟨ck,L,ct,F,cq,ci,X,cg⟩,id,xi,qty,xj,xh⟩ = true) (hr:zD g ⟨9,⟨ck,L,ct,F,cq,ci,X,cg⟩,id,xi,qty,xj,xh⟩ = 0):Calls Tryz.prog 52 #[J hj 0,.agg (yv 9 ck L ct F cq ci X cg id xi qty xj xh).toArray] w fun x w'=>TakE hj B va n0 l0 g t kd dy ⟨9,⟨ck,L,ct,F,cq,ci,X,cg⟩,id,xi,qty,xj,xh⟩ w x w':=by
 have hsf:=sfl
 have hO:=h.lt
 have vV:=h.base
 have qm:Hid (∀ w' vS vh,Below B w w'→MS hj B w' vS vh va (aQ g ⟨9,⟨ck,L,ct,F,cq,ci,X,cg⟩,id,xi,qty,xj,xh⟩) (tkM g t ⟨9,⟨ck,L,ct,F,cq,ci,X,cg⟩,id,xi,qty,xj,xh⟩) (kdM kd ⟨9,⟨ck,L,ct,F,cq,ci,X,cg⟩,id,xi,qty,xj,xh⟩) n0 (dyM g dy ⟨9,⟨ck,L,ct,F,cq,ci,X,cg⟩,id,xi,qty,xj,xh⟩) l0→TakE hj B va n0 l0 g t kd dy ⟨9,⟨ck,L,ct,F,cq,ci,X,cg⟩,id,xi,qty,xj,xh⟩ w (.returned (.tuple #[])) w'):=fun w' vS vh Q E=>⟨rfl,Q,vS,vh,E⟩
 obtain ⟨h8,o,hf,hd,uj,hqo⟩:=rule9 (e:=⟨9,⟨ck,L,ct,F,cq,ci,X,cg⟩,id,xi,qty,xj,xh⟩) rfl hr
 simp only at uj hqo
 have kH:=hi.good (.inl (by omega))
 obtain ⟨k,uX⟩:=find_at hf
 have uQ:plc g.l id = k:=by rw [uj]; exact cD kH.rise uX
 have hpo:plc g.l o.id = k:=cD kH.rise uX
 have uh:Hid (aQ g ⟨9,⟨ck,L,ct,F,cq,ci,X,cg⟩,id,xi,qty,xj,xh⟩ = { g with l:=g.l.take k ++ g.l.drop (k + 1) }):=by show _ = _; rw [step9 rfl,hd]; simp only [begG,cM hpo uX]; rw [if_neg (by omega),aR,if_pos rfl]
 obtain ⟨dr,hdy⟩:∃ dr,dy = o :: dr:=by
  rw [hm.dy,if_pos h8]
  rw [← List.head?_filter] at hf
  cases hc:g.l.filter isDy with
  | nil=>rw [hc] at hf; simp at hf
  | cons a b=>rw [hc] at hf; simp at hf; subst hf; exact ⟨b,rfl⟩
 subst hdy
 have ux:Hid (tkM g t ⟨9,⟨ck,L,ct,F,cq,ci,X,cg⟩,id,xi,qty,xj,xh⟩ = t∧kdM kd ⟨9,⟨ck,L,ct,F,cq,ci,X,cg⟩,id,xi,qty,xj,xh⟩ = kd∧dyM g (o :: dr) ⟨9,⟨ck,L,ct,F,cq,ci,X,cg⟩,id,xi,qty,xj,xh⟩ = dr):=⟨rfl,rfl,rfl⟩
 have xD:g.l ≠ []:=by intro h; rw [h] at uX; simp at uX
 have pa:=(yG.1 uX).1
 obtain ⟨gb,cap,rfl,uq,hBg,hgw⟩:=cI h.row xD
 obtain ⟨da,kA,rfl,aI,hdc⟩:=h.days
 obtain ⟨db,qI,rfl,hdb,hdcl⟩:=hdc (by simp)
 have jk:=hi.len
 have jt:=M uQ
 have hbn:(g.bg != 0) = true:=by simp [h8]
 have pG:Hid (g.bg ≠ 0):=by show _ ≠ _; omega
 have hdl1:(o :: dr).length = dr.length + 1:=rfl
 clear h8 uQ hpo uX hqo uj hf hd kH hdc hdcl
 generalize TakE hj B va n0 l0 g t kd (o :: dr) ⟨9,⟨ck,L,ct,F,cq,ci,X,cg⟩,id,xi,qty,xj,xh⟩ w = C at qm ⊢
 obtain ⟨xz,HX⟩:=fJ w (yv 9 ck L ct F cq ci X cg id xi qty xj xh) 52
 have HM:=M (zv h xz)
 have HB:=M (xz.mono vV)
 clear h xz hi hm he hr
 go_enter Tryz.func52,Tryz.ntmps52
 refine fI fun hR HK=>?_
 go_wp2_with fail
 refine H HK _ _ ?_
 clear HK
 generalize (w.alloc (A (yv 9 ck L ct F cq ci X cg id xi qty xj xh).toArray 52)) = W1 at HX HM HB ⊢
 have c9:=R (H HM).box 9 rfl
 have q9:=zd (H HM).box 9 (by show 9 < 13; decide)
 have xu:Hid (Below B w (World.setCells W1 hj 9 [.bool true])):=zL (H HB) ya (H HM) 9 _
 have xQ:Hid (MS hj B (World.setCells W1 hj 9 [.bool true]) (.slice (some (U gb 0)) g.l.length cap) (.slice (some (U db qI)) (o :: dr).length kA) va g t kd n0 (o :: dr) l0):=bQ (H HM) 9 [.bool true] (by simp) (by simp [msV,hbn]) rfl (fun h=>absurd h (H pG))
 have xH:Hid (Bx (World.setCells W1 hj 9 [.bool true]) w.heap.size (yv 9 ck L ct F cq ci X cg id xi qty xj xh)):=aS (H HX) (bG hj w.heap.size (by omega) _ 9 W1)
 clear HX HM HB hbn
 refine fI fun hR HK=>?_
 go_wp2_with fail
 refine H HK _ _ ?_
 clear HK
 change Code.wp _ _ _ _ (World.setCells W1 hj 9 [.bool true])
 generalize World.setCells W1 hj 9 [.bool true] = X0 at xu xQ xH ⊢
 have HON:=M ((H xQ).ndc (by simp) db qI _ _ rfl)
 have HDT:=M (rd_tail (H xQ).days (H HON).2)
 have e0:=R (H xH) 0 rfl
 have c10:=R (H xQ).box 10 rfl
 have q10:=zd (H xQ).box 10 (by show 10 < 13; decide)
 rw [hdl1] at c10
 clear c9 q9
 go_wp2_with fail
 have HV:Hid (RdR Od.vs 6 X0 (.slice (some (U db qI)) dr.length 0) dr∧(dr ≠ []→∀ b off n c,((.slice (some (U db qI)) dr.length 0):Value) = .slice (some (U b off)) n c→b ≠ hj∧n ≤ c)):=⟨(H HDT).2 (by omega),fun _ b off n c e=>by simp only [Value.slice.injEq,Option.some.injEq,Addr.mk.injEq,and_true] at e; obtain ⟨⟨rfl,rfl⟩,rfl,rfl⟩:=e; have:=H HON; rw [hdl1] at this; exact ⟨this.1,by omega⟩⟩
 generalize ((.slice (some (U db qI)) dr.length 0):Value) = vh at HV ⊢
 generalize Value.slice (some (U db qI)) (dr.length + 1) 1 = v166
 rotate_left
 have HV:Hid (RdR Od.vs 6 X0 (.slice (some (U db (qI + 6))) dr.length (kA - 1)) dr∧(dr ≠ []→∀ b off n c,((.slice (some (U db (qI + 6))) dr.length (kA - 1)):Value) = .slice (some (U b off)) n c→b ≠ hj∧n ≤ c)):=⟨(H HDT).1,fun _ b off n c e=>by simp only [Value.slice.injEq,Option.some.injEq,Addr.mk.injEq,and_true] at e; obtain ⟨⟨rfl,rfl⟩,rfl,rfl⟩:=e; have:=H HON; rw [hdl1] at this; exact ⟨this.1,by omega⟩⟩
 generalize ((.slice (some (U db (qI + 6))) dr.length (kA - 1)):Value) = vh at HV ⊢
 generalize hv6:Value.slice (some (U db qI)) (dr.length + 1) kA = v166 at ⊢
 clear hv6
 all_goals clear h HDT HON
 all_goals
  have HM3:=M (ms_days (H xQ) (H HV).1 (H HV).2 (H pG))
  have xL:Hid (Below B w (X0.setCell (U hj 10) vh)):=zL (H xu) ya (H xQ) 10 [vh]
  have uC:Hid (Bx (X0.setCell (U hj 10) vh) w.heap.size (yv 9 ck L ct F cq ci X cg id xi qty xj xh)):=aS (H xH) (bG hj w.heap.size (by omega) [vh] 10 X0)
  clear xQ xu xH HV
  change Code.wp _ _ _ _ (X0.setCell (U hj 10) vh)
  generalize X0.setCell (U hj 10) vh = cp at HM3 xL uC ⊢
  have xQ:=HM3
  have xu:=xL
  have xH:=uC
  clear HM3 xL uC c10 q10 e0
  have uR:Hid (RdR Od.vs 6 cp (.slice (some (U gb 0)) g.l.length cap) g.l):=zK (H xQ).row (yN jk (by decide))
  refine zk (RAA (fun f=>{ tmps:=#[J hj 0,.agg (yv 9 ck L ct F cq ci X cg id xi qty xj xh).toArray,Z,J w.heap.size 0,Z,J hj 0,J hj 0,J hj 9,J w.heap.size 0,I 9,.bool false,.bool false,Z,Z,Z,Z,Z,Z,Z,Z,Z,Z,Z,Z,Z,Z,Z,Z,Z,Z,Z,Z,Z,Z,Z,.bool false,.bool false,Z,Z,Z,Z,Z,Z,Z,Z,Z,Z,Z,Z,Z,Z,Z,Z,Z,Z,Z,Z,Z,Z,Z,Z,Z,Z,.bool false,.bool false,Z,Z,Z,Z,Z,Z,Z,Z,Z,Z,Z,Z,Z,Z,Z,Z,Z,Z,Z,.bool false,.bool false,Z,Z,Z,Z,.bool false,.bool false,Z,Z,Z,Z,Z,Z,Z,Z,Z,Z,Z,Z,Z,Z,Z,.bool false,.bool false,Z,Z,Z,Z,Z,Z,Z,Z,Z,Z,Z,Z,Z,Z,Z,.bool false,.bool false,Z,Z,Z,Z,Z,Z,Z,Z,Z,Z,Z,Z,Z,Z,Z,Z,Z,Z,Z,Z,Z,Z,Z,Z,Z,Z,Z,Z,Z,Z,Z,Z,Z,Z,.bool true,.bool true,J hj 0,J hj 0,J hj 0,J hj 10,v166,vh,J hj 0,J hj 10,f 0,f 1,f 2,f 3,f 4,f 5,f 6,f 7,f 8,f 9,f 10,f 11,f 12,f 13,f 14],defers:=[] }) (fun j v=>∀ u,([some (J hj 0),some (J hj 0),some (J hj 0),some (J hj 1),some (.slice (some (U gb 0)) g.l.length cap),some (J hj 0),some (J hj 0),some (J hj 1),some (.slice (some (U gb 0)) g.l.length cap),some (J w.heap.size 9),some (I id),some (I k),none,some (J hj 0),some (J hj 1),none]:List (Option Value))[j]? = some (some u)→v = u) 12 15 (U hj 1) (fun W v=>ORow W cp.heap.size v (g.l.take k ++ g.l.drop (k + 1))∧yn cp W) cp) (by kernel_rfl) ?_ ?_ ?_
  ·exact ⟨fun _=>Z,rfl,⟨fun j O=>by rw [yI] at O; split at O <;> simp at O,fun _=>⟨rfl,rfl,rfl,Nat.le_refl _,fun _ _=>rfl⟩,fun O=>by rw [yI] at O; split at O <;> simp at O,fun O=>by rw [yI] at O; split at O <;> simp at O⟩⟩
  ·rintro x fG hb ⟨f,rfl,K⟩ hx xN
   have xo:=zN xN hx (acyc _ (by kernel_rfl))
   obtain ⟨W0,⟨N,xz⟩,eY⟩:=K.z (xo 15 (by simp))
   have qd:=M (zv (H xQ) xz)
   have xG:=M ((H xu).trans (xz.mono (H xQ).base))
   have vv:=M (zS N (H xQ).base)
   clear K xo xN hx xz N
   dsimp only
   generalize f 0 = v0,f 1 = v1,f 2 = v2,f 3 = v3,f 4 = v4,f 5 = v5,f 6 = v6,f 7 = v7,f 8 = v8,f 9 = v9,f 10 = v10,f 11 = v11
   generalize f 12 = v12 at *
   generalize f 13 = v13,f 14 = v14
   subst eY
   go_end0
   refine H qm _ v12 vh (zL (H xG) ya (H qd) 1 [v12]) ?_
   rw [H uh,(H ux).1,(H ux).2.1,(H ux).2.2]
   exact ms_list (H qd) (H vv) (fun h=>absurd h (H pG))
  ·rintro x fG xn i op ⟨f,rfl,K⟩ V hx N xq D
   have xt:=M K
   have vr:i < 13→i ≠ 0→x[12]? = some false:=fun xI h0=>by
    rcases bB hx (show 12 < 16 by omega) with hq | uO
    ·exact hq
    ·exfalso
     have h4:=yf V 12 rfl uO 4 rfl
     have uS:=yf V 12 rfl uO 11 rfl
     have h3:=yf V 4 rfl h4 3 rfl
     have E:=yf V 3 rfl h3 2 rfl
     have Q:=yf V 2 rfl E 1 rfl
     have h8:=yf V 11 rfl uS 8 rfl
     have uV:=yf V 11 rfl uS 10 rfl
     have h7:=yf V 8 rfl h8 7 rfl
     have h6:=yf V 7 rfl h7 6 rfl
     have h5:=yf V 6 rfl h6 5 rfl
     have h9:=yf V 10 rfl uV 9 rfl
     rcases (by omega:i = 1 ∨ i = 2 ∨ i = 3 ∨ i = 4 ∨ i = 5 ∨ i = 6 ∨ i = 7 ∨ i = 8 ∨ i = 9 ∨ i = 10 ∨ i = 11 ∨ i = 12) with rfl | rfl | rfl | rfl | rfl | rfl | rfl | rfl | rfl | rfl | rfl | rfl
     ·exact absurd (Q.symm.trans xq) (by simp)
     ·exact absurd (E.symm.trans xq) (by simp)
     ·exact absurd (h3.symm.trans xq) (by simp)
     ·exact absurd (h4.symm.trans xq) (by simp)
     ·exact absurd (h5.symm.trans xq) (by simp)
     ·exact absurd (h6.symm.trans xq) (by simp)
     ·exact absurd (h7.symm.trans xq) (by simp)
     ·exact absurd (h8.symm.trans xq) (by simp)
     ·exact absurd (h9.symm.trans xq) (by simp)
     ·exact absurd (uV.symm.trans xq) (by simp)
     ·exact absurd (uS.symm.trans xq) (by simp)
     ·exact absurd (uO.symm.trans xq) (by simp)
   have n15:x[12]? = some false→x[15]? = some false:=fun uO=>by
    rcases bB hx (show 15 < 16 by omega) with hq | vQ
    ·exact hq
    ·exact absurd ((yf V 15 rfl vQ 12 rfl).symm.trans uO) (by simp)
   have xl:i < 13→i ≠ 0→∀ (p:Addr) u,cp.cell? p = some u→xn.cell? p = some u:=fun h h0 p u hu=>((K.b (vr h h0)).cell (yK cp _ hu)).trans hu
   match i,N with
   | 0,N | 1,N | 5,N =>
    obtain rfl:=yb N
    clear D K xl vr n15
    rw [if_pos (by rfl)];unfold Oper.wp;go_simp
    exact ⟨upd f _ (J hj 0),by simp [upd],zX (H xt) _ _ (yi rfl) (by decide) (by decide)⟩
   | 2,N =>
    obtain rfl:=yb N
    have g1:=K.c 1 (ye D 1 rfl) _ rfl
    clear D K xl vr n15
    rw [if_pos (by rfl)];unfold Oper.wp;go_simp
    exact ⟨upd f 2 (J hj 0),by simp [upd,g1],zX (H xt) 2 _ (yi rfl) (by decide) (by decide)⟩
   | 3,N =>
    obtain rfl:=yb N
    have g2:=K.c 2 (ye D 2 rfl) _ rfl
    clear D K xl vr n15
    rw [if_pos (by rfl)];unfold Oper.wp;go_simp
    exact ⟨upd f 3 (J hj 1),by simp [upd,g2],zX (H xt) 3 _ (yi rfl) (by decide) (by decide)⟩
   | 4,N =>
    obtain rfl:=yb N
    have g3:=K.c 3 (ye D 3 rfl) _ rfl
    have z:=xl (by omega) (by omega) (U hj 1) _ (R (H xQ).box 1 rfl)
    clear D K xl vr n15
    rw [if_pos (by rfl)];unfold Oper.wp;go_simp
    exact ⟨upd f 4 (.slice (some (U gb 0)) g.l.length cap),by simp [upd,g3],zX (H xt) 4 _ (yi rfl) (by decide) (by decide)⟩
   | 6,N =>
    obtain rfl:=yb N
    have g5:=K.c 5 (ye D 5 rfl) _ rfl
    clear D K xl vr n15
    rw [if_pos (by rfl)];unfold Oper.wp;go_simp
    exact ⟨upd f 6 (J hj 0),by simp [upd,g5],zX (H xt) 6 _ (yi rfl) (by decide) (by decide)⟩
   | 7,N =>
    obtain rfl:=yb N
    have g6:=K.c 6 (ye D 6 rfl) _ rfl
    clear D K xl vr n15
    rw [if_pos (by rfl)];unfold Oper.wp;go_simp
    exact ⟨upd f 7 (J hj 1),by simp [upd,g6],zX (H xt) 7 _ (yi rfl) (by decide) (by decide)⟩
   | 8,N =>
    obtain rfl:=yb N
    have g7:=K.c 7 (ye D 7 rfl) _ rfl
    have z:=xl (by omega) (by omega) (U hj 1) _ (R (H xQ).box 1 rfl)
    clear D K xl vr n15
    rw [if_pos (by rfl)];unfold Oper.wp;go_simp
    exact ⟨upd f 8 (.slice (some (U gb 0)) g.l.length cap),by simp [upd,g7],zX (H xt) 8 _ (yi rfl) (by decide) (by decide)⟩
   | 9,N =>
    obtain rfl:=yb N
    clear D K xl vr n15
    rw [if_pos (by rfl)];unfold Oper.wp;go_simp
    exact ⟨upd f 9 (J w.heap.size 9),by simp [upd],zX (H xt) 9 _ (yi rfl) (by decide) (by decide)⟩
   | 10,N =>
    obtain rfl:=yb N
    have g9:=K.c 9 (ye D 9 rfl) _ rfl
    have z:=xl (by omega) (by omega) (U w.heap.size 9) _ (R (H xH) 9 rfl)
    clear D K xl vr n15
    rw [if_pos (by rfl)];unfold Oper.wp;go_simp
    exact ⟨upd f 10 (I id),by simp [upd,g9],zX (H xt) 10 _ (yi rfl) (by decide) (by decide)⟩
   | 11,N =>
    obtain rfl:=yb N
    have g8:=K.c 8 (ye D 8 rfl) _ rfl
    have qp:=K.c 10 (ye D 10 rfl) _ rfl
    have kj:=vr (by omega) (by omega)
    have qD:=n15 kj
    have ql:=M (zh (H uR) (K.b kj) ya)
    clear D K xl vr n15
    rw [if_pos (by rfl)];unfold Oper.wp;go_simp
    refine (du _ g.l id xn (H ql)).mono ?_
    rw [H jt]
    rintro e w4 ⟨rfl,xw⟩
    exact ⟨upd f 11 (I k),by simp [upd,g8,qp],zX (ra_grow (H xt) kj qD xw) 11 _ (yi rfl) (by decide) (by decide)⟩
   | 12,N =>
    obtain rfl:=yb N
    have g4:=K.c 4 (ye D 4 rfl) _ rfl
    have vE:=K.c 11 (ye D 11 rfl) _ rfl
    have qD:=n15 xq
    have vn:=K.b xq
    have ql:=M (zh (H uR) vn ya)
    have xy:=M vn
    clear D K xl vr n15 vn
    rw [if_pos (by rfl)];unfold Oper.wp;go_simp
    obtain ⟨a9,c9,e9,-,aG⟩:=H ql
    obtain ⟨b9,o9,uy,oK,hcl9⟩:=aG xD
    rw [uy] at e9
    simp only [Value.slice.injEq,Option.some.injEq,Addr.mk.injEq,and_true,true_and] at e9
    obtain ⟨⟨rfl,rfl⟩,rfl⟩:=e9
    refine (l04Drop_any gb 0 cap g.l k xn hcl9 oK pa uq (yN jk (by decide))).mono ?_
    rintro e w4 ⟨v9,rfl,kO,xw⟩
    exact ⟨upd f 12 v9,by simp [upd,g4,vE],ra_app (H xt) xq qD (by decide) (fun u hu=>by cases hu) ⟨zS kO (H xy).size,(H xy).trans (xw.mono (H xy).size)⟩⟩
   | 13,N =>
    obtain rfl:=yb N
    have g0:=K.c 0 (ye D 0 rfl) _ rfl
    clear D K xl vr n15
    rw [if_pos (by rfl)];unfold Oper.wp;go_simp
    exact ⟨upd f 13 (J hj 0),by simp [upd,g0],zX (H xt) 13 _ (yi rfl) (by decide) (by decide)⟩
   | 14,N =>
    obtain rfl:=yb N
    have qJ:=K.c 13 (ye D 13 rfl) _ rfl
    clear D K xl vr n15
    rw [if_pos (by rfl)];unfold Oper.wp;go_simp
    exact ⟨upd f 14 (J hj 1),by simp [upd,qJ],zX (H xt) 14 _ (yi rfl) (by decide) (by decide)⟩
   | 15,N =>
    obtain rfl:=yb N
    have jf:=K.c 14 (ye D 14 rfl) _ rfl
    have kj:x[12]? = some true:=D ⟨12,.data⟩ (by simp) rfl
    obtain ⟨af,vn⟩:=K.a kj xq
    have vI:=M (zv (H xQ) vn)
    have y1:=R (H vI).box 1 rfl
    have q1:=zd (H vI).box 1 (by show 1 < 13; decide)
    obtain ⟨ga,gn,gc,xZ⟩:∃ ga gn gc,f 12 = .slice ga gn gc:=by
     obtain ⟨ga,gc,xZ⟩:=cA (zK af (by simp; omega))
     exact ⟨ga,_,gc,xZ⟩
    clear D K xl vr n15 af vn
    rw [if_pos (by rfl)];unfold Oper.wp;go_simp
    refine ⟨f,by simp [jf,xZ],?_⟩
    have:=ra_store (H xt) kj xq (by decide) (fun v u hu=>by cases hu)
    rw [xZ] at this
    exact this
   | i + 16,N=>simp at N
end Go.Proofs.YtnphbkgfjanmgaaGreatDoor
