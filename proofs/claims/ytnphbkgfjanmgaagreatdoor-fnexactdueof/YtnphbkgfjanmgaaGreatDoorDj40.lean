/-
  A day's end done, by the model: proved by walking the method.
-/
import Derived.Test.YtnphbkgfjanmgaaGreatDoorDj39
set_option linter.unusedVariables false
set_option maxHeartbeats 6400000
set_option maxRecDepth 100000
namespace Go.Proofs.YtnphbkgfjanmgaaGreatDoor
open Go.RowKit
theorem drop_getR {l:List Od} {k:Nat} {c:Od} (h:l[k]? = some c):l.drop k = c :: l.drop (k + 1):=by
 obtain ⟨N,rfl⟩:=yH.1 h
 exact xd N
theorem oRow_gr {W W':World} {B:Nat} {v:Value} {l:List Od} {G:Option Nat} (h:ORow W B v l) (hg:W.grownBy W' G) (hn:∀ k,v.ownBlock = some k→some k ≠ G):ORow W' B v l:=by
 rcases h.2 with ⟨e,n⟩ | ⟨g,cap,xF,rfl,E,hh,r⟩
 ·exact ⟨h.1,.inl ⟨e,n⟩⟩
 ·exact ⟨h.1,.inr ⟨g,cap,xF,rfl,E,(hg.block g (yZ.1 hh).1 (hn g rfl)).trans hh,r⟩⟩
theorem rd_grO {W W':World} {l:List Od} {v:Value} {G:Option Nat} (h:RdR Od.vs 6 W v l) (hg:W.grownBy W' G) (hn:l ≠ []→∀ b' off n c,v = .slice (some (Q b' off)) n c→some b' ≠ G):RdR Od.vs 6 W' v l:=by
 obtain ⟨a,cap,rfl,hl,hc⟩:=h
 refine ⟨a,cap,rfl,hl,fun xD=>?_⟩
 obtain ⟨b',off,rfl,E,X⟩:=hc xD
 have kc:=hg.block b' E (hn xD b' off _ _ rfl)
 refine ⟨b',off,rfl,yK E hg.size,fun j c V i u hi=>?_⟩
 rw [yR (a:=(Q b' (off + j * 6 + i))) kc]
 exact X j c V i u hi
theorem ms_dayrow {cp B ho:Nat} {h2 W:World} {vl vm va v':Value} {g:Gr} {t:Od} {kd n0:Int} {m m' l0:List Od} (h:MS cp B h2 vl vm va g t kd n0 m l0) (hg:h2.grownBy W vm.ownBlock) (hZ:∀ k,vm.ownBlock = some k→ho ≤ k) (hOZ:cp < ho) (hLZ:∀ k,vl.ownBlock = some k→k < ho) (Z:ORow W ho v' m') (hq:g.bg ≠ 0) (hl:m'.length ≤ 1073741824):MS cp B (W.setCell (Q cp 10) v') vl v' va g t kd n0 m' l0:=by
 have hOB:=h.hO
 have nO:some cp ≠ vm.ownBlock:=fun e=>by have:=hZ cp e.symm; omega
 have hd:m' ≠ []→∀ b off n c,v' = .slice (some (Q b off)) n c→b ≠ cp∧n ≤ c:=fun xD b off n c e=>by
  obtain ⟨g',cap,e',hc,hB,-⟩:=cB Z xD
  rw [e'] at e
  simp only [Value.slice.injEq,Option.some.injEq,Addr.mk.injEq,and_true] at e
  obtain ⟨⟨rfl,-⟩,rfl,rfl⟩:=e
  exact ⟨by omega,hc⟩
 obtain ⟨xF,hty⟩:=h.typ
 refine ⟨aX (aO h.box (hg.block cp h.lt nO)) (by show 10 < 13; decide),dS h.nl [v'] 10 W (oRow_gr h.row hg (fun k hk e=>by have:=hZ k e.symm; have:=hLZ k hk; omega)),cR (us:=[v']) (o:=10) (zK Z hl) (fun xD b off n c e=>(hd xD b off n c e).1),cR (us:=[v']) (o:=10) (rd_grO h.ahd hg (fun xD b' off n c e e2=>by have:=h.na xD b' off n c e; have:=hZ b' e2.symm; omega)) (fun xD b' off n c e=>by have:=h.na xD b' off n c e; omega),h.sla,dN [v'] 10 W ⟨xF,(hg.block cp h.lt nO).trans hty⟩,h.hO,fun e=>absurd e hq,hd,h.na⟩
structure RD (C:Nat→Value→Prop) (cp:Nat) (cs:World→Value→Prop) (B0:World) (c0:Od) (x:List Bool) (f:Nat→Value) (W:World):Prop where
 c:∀ j,x[j]? = some true→C j (f j)
 bel:x[13]? = some false→Below B0.heap.size B0 W
 m4:x[12]? = some true→x[13]? = some false→∃ b,f 12 = .slice (some ⟨b,0,none⟩) 1 1∧b < W.heap.size∧W.rangeAt b 0 c0.vs
 m5:x[13]? = some true→x[16]? = some false→cs W (f 13)
 z:x[16]? = some true→∃ W0,cs W0 (f 13)∧W = W0.setCell ⟨cp,10,none⟩ (f 13)
def RDA (cl:(Nat→Value)→Act) (C:Nat→Value→Prop) (cp:Nat) (cs:World→Value→Prop) (B0:World) (c0:Od) (x:List Bool) (a:Act) (W:World):Prop:=∃ f,a = cl f∧RD C cp cs B0 c0 x f W
section
variable {C:Nat→Value→Prop} {cp:Nat} {cs:World→Value→Prop} {B0 W W':World} {c0:Od} {x:List Bool} {f:Nat→Value}
theorem bO (h:RD C cp cs B0 c0 x f W) (i:Nat) (v:Value) (hv:C i v) (hi:i ≠ 12∧i ≠ 13∧i ≠ 16):RD C cp cs B0 c0 (x.set i true) (upd f i v) W:=by
 obtain ⟨Y,h3,h6⟩:=hi
 refine ⟨zC h.c hv,?_,?_,?_,?_⟩ <;> simp only [gq Y,gq h3,gq h6,zk f v Y.symm,zk f v h3.symm]
 ·exact h.bel
 ·exact h.m4
 ·exact h.m5
 ·exact h.z
theorem rdd_12 (h:RD C cp cs B0 c0 x f W) (n:x[13]? = some false) (n6:x[16]? = some false) (hc:∀ v,C 12 v):RD C cp cs B0 c0 (x.set 12 true) (upd f 12 (.slice (some (Q W.heap.size 0)) 1 1)) (W.alloc (Obj.cells c0.vs.toArray 78)) :=
 ⟨zC h.c (hc _),fun _=>(h.bel n).alloc (h.bel n).size _,fun _ _=>⟨W.heap.size,zr _ _ _,by rw [zj]; omega,zn W c0.vs _⟩,fun e=>(by rw [gq (by decide),n] at e; cases e),fun e=>by rw [gq (by decide),n6] at e; cases e⟩
theorem rdd_13 (h:RD C cp cs B0 c0 x f W) (n:x[13]? = some false) (n6:x[16]? = some false) (hc:∀ v,C 13 v) {v':Value} (ha:cs W' v'):RD C cp cs B0 c0 (x.set 13 true) (upd f 13 v') W' :=
 ⟨zC h.c (hc _),fun e=>(by rw [gqs n] at e; cases e),fun _ e=>(by rw [gqs n] at e; cases e),fun _ _=>(by rw [zr]; exact ha),fun e=>by rw [gq (by decide),n6] at e; cases e⟩
theorem rdd_16 (h:RD C cp cs B0 c0 x f W) (h3:x[13]? = some true) (n6:x[16]? = some false) (hc:∀ v,C 16 v):RD C cp cs B0 c0 (x.set 16 true) f (W.setCell (Q cp 10) (f 13)):=by
 refine ⟨fun j V=>?_,fun e=>?_,fun _ e=>?_,fun _ e=>?_,fun _=>⟨W,h.m5 h3 n6,rfl⟩⟩
 ·by_cases hjm:j = 16
  ·subst hjm; exact hc _
  ·rw [gq (fun e=>hjm e.symm)] at V; exact h.c j V
 ·rw [gq (by decide),h3] at e; cases e
 ·rw [gq (by decide),h3] at e; cases e
 ·rw [gqs n6] at e; cases e
end
theorem take_8 {cp B:Nat} {vl vd va:Value} {g:Gr} {t:Od} {kd n0:Int} {dy l0:List Od} (ck A ct F cq ci:Int) (O:Nat) (cg:ByteArray) (id xj qty xk xi:Int) (w:World) (h:MS cp B w vl vd va g t kd n0 dy l0) (hi:GI g) (hm:MR g t kd dy) (he:okE ⟨8,⟨ck,A,ct,F,cq,ci,O,cg⟩,id,xj,qty,xk,xi⟩ = true) (hr:zF g ⟨8,⟨ck,A,ct,F,cq,ci,O,cg⟩,id,xj,qty,xk,xi⟩ = 0):Calls Tryz.prog 52 #[J cp 0,.agg (yw 8 ck A ct F cq ci O cg id xj qty xk xi).toArray] w fun x w'=>TakE cp B va n0 l0 g t kd dy ⟨8,⟨ck,A,ct,F,cq,ci,O,cg⟩,id,xj,qty,xk,xi⟩ w x w':=by
 have hsf:=sfl
 have hO:=h.lt
 have vW:=h.base
 have qF:Hid (∀ w' vT vh,Below B w w'→MS cp B w' vT vh va (aM g ⟨8,⟨ck,A,ct,F,cq,ci,O,cg⟩,id,xj,qty,xk,xi⟩) (tkM g t ⟨8,⟨ck,A,ct,F,cq,ci,O,cg⟩,id,xj,qty,xk,xi⟩) (kdM kd ⟨8,⟨ck,A,ct,F,cq,ci,O,cg⟩,id,xj,qty,xk,xi⟩) n0 (dyM g dy ⟨8,⟨ck,A,ct,F,cq,ci,O,cg⟩,id,xj,qty,xk,xi⟩) l0→TakE cp B va n0 l0 g t kd dy ⟨8,⟨ck,A,ct,F,cq,ci,O,cg⟩,id,xj,qty,xk,xi⟩ w (.returned (.tuple #[])) w'):=fun w' vT vh N Y=>⟨rfl,N,vT,vh,Y⟩
 have h0:=rule8 (e:=⟨8,⟨ck,A,ct,F,cq,ci,O,cg⟩,id,xj,qty,xk,xi⟩) rfl hr
 have ug:Hid (aM g ⟨8,⟨ck,A,ct,F,cq,ci,O,cg⟩,id,xj,qty,xk,xi⟩ = { g with bg:=8 }):=by show _ = _; rw [step8 rfl]; simp only [begG,if_pos h0]
 have ux:Hid (tkM g t ⟨8,⟨ck,A,ct,F,cq,ci,O,cg⟩,id,xj,qty,xk,xi⟩ = t∧kdM kd ⟨8,⟨ck,A,ct,F,cq,ci,O,cg⟩,id,xj,qty,xk,xi⟩ = kd∧dyM g dy ⟨8,⟨ck,A,ct,F,cq,ci,O,cg⟩,id,xj,qty,xk,xi⟩ = g.l.filter isDy):=⟨rfl,rfl,rfl⟩
 have hdy:dy = []:=by rw [hm.dy,if_neg (by omega)]
 have hvd:=(h.eqd h0).2.2
 subst hdy
 subst hvd
 have jh:=hi.len
 obtain ⟨la,lc,rfl⟩:=cd (zK h.row (yO jh (by decide)))
 obtain ⟨i0,vA,uH,uI,uW⟩:=info_parts Tryz.infoOrder
 clear h0
 generalize TakE cp B va n0 l0 g t kd [] ⟨8,⟨ck,A,ct,F,cq,ci,O,cg⟩,id,xj,qty,xk,xi⟩ w = C at qF ⊢
 obtain ⟨xz,HX⟩:=fE w (yw 8 ck A ct F cq ci O cg id xj qty xk xi) 52
 have HM:=H (zv h xz)
 have HB:=H (xz.mono vW)
 clear h xz hi hm he hr
 go_enter Tryz.func52,Tryz.ntmps52
 refine fD fun zb HK=>?_
 go_wp2_with fail
 refine U HK _ _ ?_
 clear HK
 generalize (w.alloc (L (yw 8 ck A ct F cq ci O cg id xj qty xk xi).toArray 52)) = W1 at HX HM HB ⊢
 have c9:=K (U HM).box 9 rfl
 have q9:=zd (U HM).box 9 (by show 9 < 13; decide)
 have xw:Hid (Below B w (World.setCells W1 cp 9 [.bool true])):=zL (U HB) yb (U HM) 9 _
 have xR:Hid (MS cp B (World.setCells W1 cp 9 [.bool true]) (.slice la g.l.length lc) (.slice none 0 0) va { g with bg:=8 } t kd n0 [] l0):=bK (U HM) 9 [.bool true] (by simp) rfl rfl (fun h=>absurd (show (8:Int) = 0 from h) (by decide))
 have e0:(World.setCells W1 cp 9 [.bool true]).cell? (Q w.heap.size 0) = some (I 8):=K (aO (U HX) (bA cp w.heap.size (by omega) _ 9 W1)) 0 rfl
 clear HX HM HB
 refine fD fun zb HK=>?_
 go_wp2_with fail
 refine U HK _ _ ?_
 clear HK
 change Code.wp _ _ _ _ (World.setCells W1 cp 9 [.bool true])
 generalize World.setCells W1 cp 9 [.bool true] = xo at xw xR e0 ⊢
 have HZ:Hid (∀ b,(.slice la g.l.length lc:Value).ownBlock = some b→b < xo.heap.size):=fun b E=>((U xR).row.lt b E).2
 have HOX:Hid (cp < xo.heap.size):=(U xR).lt
 clear c9 q9
 go_wp2_with fail
 go_loopw [4] (fun iv wr=>∃ (k:Nat) (m:List Od) (vm:Value),k ≤ g.l.length∧iv = I k∧Hid (g.l.filter isDy = m ++ (g.l.drop k).filter isDy)∧m.length ≤ k∧Hid (MS cp B wr (.slice la g.l.length lc) vm va { g with bg:=8 } t kd n0 m l0)∧Hid (ORow wr xo.heap.size vm m)∧Hid (Below B w wr)∧xo.heap.size ≤ wr.heap.size) (fun iv _=>g.l.length - (intOf iv).toNat)
 case atStart=>exact ⟨0,[],_,Nat.zero_le _,rfl,rfl,Nat.le_refl _,xR,World.ownsRow_nil _ _ _ _,xw,Nat.le_refl _⟩
 case round =>
  obtain ⟨k,m,vm,hk,rfl,uM,kG,HMk,HOk,HBk,kO⟩:=hrel
  clear xR xw e0
  have c1:=K (U HMk).box 1 rfl
  by_cases xJ:k < g.l.length
  ·obtain ⟨c,ur⟩:∃ c,g.l[k]? = some c:=⟨_,yI xJ⟩
   have HP:Hid (g.l.filter isDy = m ++ (c :: g.l.drop (k + 1)).filter isDy):=by
    have:=U uM
    rw [drop_getR ur] at this
    exact this
   obtain ⟨b,rfl,E,X⟩:∃ b,la = some (Q b 0)∧b < wr.heap.size∧wr.rangeAt b (k * 6) c.vs:=by
    obtain ⟨a9,c9,e9,-,aC⟩:=zK (U HMk).row (yO jh (by decide))
    obtain ⟨b9,o9,uO,oG,hcl9⟩:=aC (by intro h; rw [h] at ur; simp at ur)
    obtain ⟨g9,p9,uy,-,-,-⟩:=cB (U HMk).row (by intro h; rw [h] at ur; simp at ur)
    simp only [Value.slice.injEq,true_and] at e9 uy
    rw [e9.1,uO] at uy
    simp only [Option.some.injEq,Addr.mk.injEq,and_true] at uy
    obtain ⟨⟨rfl,rfl⟩,-⟩:=uy
    exact ⟨b9,e9.1.trans uO,oG,fun i u hi=>by have:=hcl9 k c ur i u hi; rw [Nat.zero_add] at this; exact this⟩
   obtain ⟨g0,g1,g2,g3,g4,g5⟩:=zB X
   have uF:(k:Int) < g.l.length:=by omega
   clear ur uM
   by_cases ui:c.life = 1
   ·rw [ui] at g4
    have HP1:Hid (g.l.filter isDy = (m ++ [c]) ++ (g.l.drop (k + 1)).filter isDy):=by
     have:=U HP
     rw [List.filter_cons_of_pos (by simp [isDy,ui])] at this
     show _ = _
     rw [this]; simp
    have HC0:Hid (wr.rangeAt b (k * 6) c.vs):=X
    clear HP X ui
    go_wp2_with fail
    refine zm (RDA (fun f=>{ tmps:=#[J cp 0,.agg (yw 8 ck A ct F cq ci O cg id xj qty xk xi).toArray,M,J w.heap.size 0,I k,J cp 0,J cp 0,J cp 9,J w.heap.size 0,I 8,.bool false,.bool false,M,M,M,M,M,M,M,M,M,M,M,M,M,M,M,M,M,M,M,M,M,M,M,.bool false,.bool false,M,M,M,M,M,M,M,M,M,M,M,M,M,M,M,M,M,M,M,M,M,M,M,M,M,M,.bool false,.bool false,M,M,M,M,M,M,M,M,M,M,M,M,M,M,M,M,M,M,M,.bool false,.bool false,M,M,M,M,.bool false,.bool false,M,M,M,M,M,M,M,M,M,M,M,M,M,M,M,.bool false,.bool false,M,M,M,M,M,M,M,M,M,M,M,M,M,M,M,.bool true,.bool true,I k,J cp 0,J cp 0,J cp 1,.slice (some (Q b 0)) g.l.length lc,I g.l.length,.bool true,u133,u134,J cp 0,J cp 0,J cp 1,.slice (some (Q b 0)) g.l.length lc,I k,J b (k * 6),J b (k * 6 + 4),I 1,.bool true,f 0,f 1,f 2,f 3,f 4,f 5,f 6,f 7,f 8,f 9,f 10,f 11,f 12,f 13,f 14,f 15,M,M,M,M,M,M,M,M,M,M,M,M,M,M,M,M,M,M,M,M,M,M,M,M,M],defers:=[] }) (fun j v=>∀ u,([some (J cp 0),some (J cp 0),some (J cp 0),some (J cp 10),some (vm),some (J cp 0),some (J cp 0),some (J cp 1),some (.slice (some (Q b 0)) g.l.length lc),some (I k),some (J b (k * 6)),some (.agg (yx c.id c.side c.ticks c.left c.life c.tag).toArray),none,none,some (J cp 0),some (J cp 10),none]:List (Option Value))[j]? = some (some u)→v = u) cp (fun W v=>ORow W xo.heap.size v (m ++ [c])∧wr.grownBy W vm.ownBlock) wr c) (by kernel_rfl) ?_ ?_ ?_
    ·have vL:∀ j,(List.replicate 17 false)[j]? = some true→False:=fun j V=>by rw [yJ] at V; split at V <;> simp at V
     exact ⟨fun j=>[u144,u145,u146,u147,u148,u149,u150,u151,u152,u153,u154,u155,u156,u157,u158,u159].getD j M,rfl,⟨fun j V=>(vL j V).elim,fun _=>⟨rfl,rfl,rfl,Nat.le_refl _,fun _ _=>rfl⟩,fun h=>(vL _ h).elim,fun h=>(vL _ h).elim,fun h=>(vL _ h).elim⟩⟩
    ·rintro x cs h2 ⟨f,rfl,R⟩ hx xO
     have xq:=zN xO hx (acyc _ (by kernel_rfl))
     obtain ⟨W0,⟨Z,hg0⟩,eY⟩:=R.z (xq 16 (by simp))
     have hZk:∀ k,vm.ownBlock = some k→xo.heap.size ≤ k:=fun k hk=>((U HOk).lt k hk).1
     have vy:Hid (MS cp B (W0.setCell (Q cp 10) (f 13)) (.slice (some (Q b 0)) g.l.length lc) (f 13) va { g with bg:=8 } t kd n0 (m ++ [c]) l0):=ms_dayrow (U HMk) hg0 hZk (U HOX) (U HZ) Z (fun h=>absurd (show (8:Int) = 0 from h) (by decide)) (by simp; omega)
     have nO:some cp ≠ (f 13).ownBlock:=fun e=>by have:=(Z.lt cp e.symm).1; have:=U HOX; omega
     have jl:Hid (ORow (W0.setCell (Q cp 10) (f 13)) xo.heap.size (f 13) (m ++ [c])):=dS nO [f 13] 10 W0 Z
     have uj:Hid (Below B w (W0.setCell (Q cp 10) (f 13))):=zi cp (U HMk).hO [f 13] 10 W0 ((U HBk).trans (dM hg0 (fun k hk=>by have:=hZk k hk; have:=(U HMk).hO; have:=U HOX; omega) (U HMk).base))
     have HS5:Hid (xo.heap.size ≤ (W0.setCell (Q cp 10) (f 13)).heap.size):=by have:=(gr_set W0 (Q cp 10) (f 13)).size; have:=hg0.size; show _ ≤ _; omega
     rw [← eY] at vy jl uj HS5
     clear R xq xO hx Z hg0 hZk nO eY
     dsimp only
     generalize f 0 = v0,f 1 = v1,f 2 = v2,f 3 = v3,f 4 = v4,f 5 = v5,f 6 = v6,f 7 = v7,f 8 = v8,f 9 = v9,f 10 = v10,f 11 = v11,f 12 = v12
     generalize f 13 = v13 at *
     generalize f 14 = v14,f 15 = v15
     go_wp2_with fail
     dsimp only [I,J,Q,M,yk,yl,yw,yx,yy]
     go_roundw
     case rel=>exact ⟨k + 1,m ++ [c],v13,by omega,by go_num,HP1,by simp; omega,vy,jl,uj,U HS5⟩
     case measure=>simp [intOf]; omega
    ·rintro x cs hj i op ⟨f,rfl,R⟩ X hx Z xr D
     have xu:=H R
     match i,Z with
     | 0,Z | 1,Z | 5,Z =>
      obtain rfl:=yc Z
      clear D R X
      rw [if_pos (by rfl)];unfold Oper.wp;go_simp
      exact ⟨upd f _ (J cp 0),by simp [upd],bO (U xu) _ _ (yj rfl) (by decide)⟩
     | 2,Z =>
      obtain rfl:=yc Z
      have g1:=R.c 1 (yf D 1 rfl) _ rfl
      clear D R X
      rw [if_pos (by rfl)];unfold Oper.wp;go_simp
      exact ⟨upd f 2 (J cp 0),by simp [upd,g1],bO (U xu) 2 _ (yj rfl) (by decide)⟩
     | 3,Z =>
      obtain rfl:=yc Z
      have g2:=R.c 2 (yf D 2 rfl) _ rfl
      clear D R X
      rw [if_pos (by rfl)];unfold Oper.wp;go_simp
      exact ⟨upd f 3 (J cp 10),by simp [upd,g2],bO (U xu) 3 _ (yj rfl) (by decide)⟩
     | 4,Z =>
      obtain rfl:=yc Z
      have g3:=R.c 3 (yf D 3 rfl) _ rfl
      have aL:x[13]? = some false:=zU X 17 4 13 (by kernel_rfl) hx (by simp) xr
      have jW:=H (zv (U HMk) (R.bel aL))
      have zz:=K (U jW).box 10 rfl
      clear D R X
      rw [if_pos (by rfl)];unfold Oper.wp;go_simp
      exact ⟨upd f 4 (vm),by simp [upd,g3],bO (U xu) 4 _ (yj rfl) (by decide)⟩
     | 6,Z =>
      obtain rfl:=yc Z
      have g5:=R.c 5 (yf D 5 rfl) _ rfl
      clear D R X
      rw [if_pos (by rfl)];unfold Oper.wp;go_simp
      exact ⟨upd f 6 (J cp 0),by simp [upd,g5],bO (U xu) 6 _ (yj rfl) (by decide)⟩
     | 7,Z =>
      obtain rfl:=yc Z
      have g6:=R.c 6 (yf D 6 rfl) _ rfl
      clear D R X
      rw [if_pos (by rfl)];unfold Oper.wp;go_simp
      exact ⟨upd f 7 (J cp 1),by simp [upd,g6],bO (U xu) 7 _ (yj rfl) (by decide)⟩
     | 8,Z =>
      obtain rfl:=yc Z
      have g7:=R.c 7 (yf D 7 rfl) _ rfl
      have aL:x[13]? = some false:=zU X 17 8 13 (by kernel_rfl) hx (by simp) xr
      have jW:=H (zv (U HMk) (R.bel aL))
      have zz:=K (U jW).box 1 rfl
      clear D R X
      rw [if_pos (by rfl)];unfold Oper.wp;go_simp
      exact ⟨upd f 8 (.slice (some (Q b 0)) g.l.length lc),by simp [upd,g7],bO (U xu) 8 _ (yj rfl) (by decide)⟩
     | 9,Z =>
      obtain rfl:=yc Z
      clear D R X
      rw [if_pos (by rfl)];unfold Oper.wp;go_simp
      exact ⟨upd f 9 (I k),by simp [upd],bO (U xu) 9 _ (yj rfl) (by decide)⟩
     | 10,Z =>
      obtain rfl:=yc Z
      have g8:=R.c 8 (yf D 8 rfl) _ rfl
      have g9:=R.c 9 (yf D 9 rfl) _ rfl
      clear D R X
      rw [if_pos (by rfl)];unfold Oper.wp;go_simp
      exact ⟨upd f 10 (J b (k * 6)),by simp [upd,g8,g9],bO (U xu) 10 _ (yj rfl) (by decide)⟩
     | 11,Z =>
      obtain rfl:=yc Z
      have qn:=R.c 10 (yf D 10 rfl) _ rfl
      have aL:x[13]? = some false:=zU X 17 11 13 (by kernel_rfl) hx (by simp) xr
      obtain ⟨y0,y1,y2,y3,y4,y5⟩:=zB (zc (U HC0) (R.bel aL) E)
      clear D R X
      rw [if_pos (by rfl)];unfold Oper.wp;go_simp
      exact ⟨upd f 11 (.agg (yx c.id c.side c.ticks c.left c.life c.tag).toArray),by simp [upd,qn],bO (U xu) 11 _ (yj rfl) (by decide)⟩
     | 12,Z =>
      obtain rfl:=yc Z
      have vE:=R.c 11 (yf D 11 rfl) _ rfl
      have aL:x[13]? = some false:=zU X 17 12 13 (by kernel_rfl) hx (by simp) xr
      have k16:x[16]? = some false:=zU X 17 12 16 (by kernel_rfl) hx (by simp) xr
      clear D R X
      rw [if_pos (by rfl)];unfold Oper.wp;go_simp
      exact ⟨upd f 12 (.slice (some (Q hj.heap.size 0)) 1 1),by simp [upd,vE],rdd_12 (U xu) aL k16 (fun v u hu=>by cases hu)⟩
     | 13,Z =>
      obtain rfl:=yc Z
      have k16:x[16]? = some false:=zU X 17 13 16 (by kernel_rfl) hx (by simp) xr
      have g4':=R.c 4 (yf D 4 rfl) _ rfl
      obtain ⟨b4,ua,uk,xQ⟩:=R.m4 (yf D 12 rfl) xr
      have vj:=R.bel xr
      have jA:=H (zM (U HOk) vj)
      have qO:Hid (∀ j u,c.vs[j]? = some u→hj.cell? (((Q b4 0):Addr).add j) = some u):=fun j u hu=>by
       have:=xQ j u hu
       rw [Addr.add_mid]; exact this
      clear D R X xQ
      rw [if_pos (by rfl)]
      refine wp_append_own hj (.tmp 148) (.tmp 156) 32 rfl xo.heap.size 78 i0 _ 6 56 Tryz.underlying32 vA uH uI uW rfl (by decide) vm m.length (m.flatMap Od.vs) (by show f 4 = _; exact g4') (U jA) (Q b4 0) 1 1 c.vs (by show f 12 = _; exact ua) rfl (U qO) (one_od c) (by unfold maxLen; omega) (by omega) (yO kO vj.size) ?_
      intro v' w' xS vG _
      refine ⟨upd f 13 v',rfl,rdd_13 (U xu) xr k16 (fun v u hu=>by cases hu) ⟨?_,(cD vj yb).trans vG⟩⟩
      show w'.ownsRow _ _ _ _ (m ++ [c]).length _
      rw [yQ,List.flatMap_append]
      simpa using xS
     | 14,Z =>
      obtain rfl:=yc Z
      have g0:=R.c 0 (yf D 0 rfl) _ rfl
      clear D R X
      rw [if_pos (by rfl)];unfold Oper.wp;go_simp
      exact ⟨upd f 14 (J cp 0),by simp [upd,g0],bO (U xu) 14 _ (yj rfl) (by decide)⟩
     | 15,Z =>
      obtain rfl:=yc Z
      have je:=R.c 14 (yf D 14 rfl) _ rfl
      clear D R X
      rw [if_pos (by rfl)];unfold Oper.wp;go_simp
      exact ⟨upd f 15 (J cp 10),by simp [upd,je],bO (U xu) 15 _ (yj rfl) (by decide)⟩
     | 16,Z =>
      obtain rfl:=yc Z
      have g15:=R.c 15 (yf D 15 rfl) _ rfl
      have aL:x[13]? = some true:=D ⟨13,.data⟩ (by simp) rfl
      obtain ⟨ho5,ja⟩:=R.m5 aL xr
      have nO:some cp ≠ vm.ownBlock:=fun e=>by have:=((U HOk).lt cp e.symm).1; have:=U HOX; omega
      have qV:=H (aO (U HMk).box (ja.block cp (U HMk).lt nO))
      have y1:=K (U qV) 10 rfl
      have q1:=zd (U qV) 10 (by show 10 < 13; decide)
      obtain ⟨ga,gc,qI⟩:=cd (zK ho5 (by simp; omega))
      generalize (m ++ [c]).length = gn at qI
      clear D R X ho5 ja nO
      rw [if_pos (by rfl)];unfold Oper.wp;go_simp
      refine ⟨f,by simp [g15,qI],?_⟩
      have:=rdd_16 (U xu) aL xr (fun v u hu=>by cases hu)
      rw [qI] at this
      exact this
     | i + 17,Z=>simp at Z
   ·have HP1:Hid (g.l.filter isDy = m ++ (g.l.drop (k + 1)).filter isDy):=by
     have:=U HP
     rw [List.filter_cons_of_neg (by simp [isDy,ui])] at this
     exact this
    clear HP
    go_wp2_with fail
    dsimp only [I,J,Q,M,yk,yl,yw,yx,yy]
    go_roundw
    case rel=>exact ⟨k + 1,m,vm,by omega,by go_num,HP1,by omega,HMk,HOk,HBk,kO⟩
    case measure=>simp [intOf]; omega
  ·have HE:Hid (g.l.filter isDy = m):=by
    have:=U uM
    rw [xb (by omega)] at this
    show _ = _
    rw [this]; simp
   have hge:¬ ((k:Int) < g.l.length):=by omega
   clear uM xJ
   go_wp2_with fail
   go_end0
   refine U qF _ (.slice la g.l.length lc) vm (U HBk) ?_
   rw [U ug,(U ux).1,(U ux).2.1,(U ux).2.2,U HE]
   exact U HMk
theorem take_any {cp B:Nat} {vl vd va:Value} {g:Gr} {t:Od} {kd n0:Int} {dy l0:List Od} (e:Ev) (w:World) (h:MS cp B w vl vd va g t kd n0 dy l0) (hi:GI g) (hm:MR g t kd dy) (he:okE e = true) (hr:zF g e = 0):Calls Tryz.prog 52 #[J cp 0,evV e] w fun x w'=>TakE cp B va n0 l0 g t kd dy e w x w':=by
 have hk:=dx he
 obtain ⟨xn,⟨ck,A,ct,F,cq,ci,O,cg⟩,id,xj,qty,xk,xi⟩:=e
 simp only at hk
 rcases (by omega:xn = 1 ∨ xn = 2 ∨ xn = 3 ∨ xn = 4 ∨ xn = 5 ∨ xn = 6 ∨ xn = 7 ∨ xn = 8 ∨ xn = 9) with rfl | rfl | rfl | rfl | rfl | rfl | rfl | rfl | rfl
 ·exact take_1 ck A ct F cq ci O cg id xj qty xk xi w h hi hm he hr
 ·exact take_2 ck A ct F cq ci O cg id xj qty xk xi w h hi hm he hr
 ·exact take_3 ck A ct F cq ci O cg id xj qty xk xi w h hi hm he hr
 ·exact take_4 ck A ct F cq ci O cg id xj qty xk xi w h hi hm he hr
 ·exact take_5 ck A ct F cq ci O cg id xj qty xk xi w h hi hm he hr
 ·exact take_6 ck A ct F cq ci O cg id xj qty xk xi w h hi hm he hr
 ·exact take_7 ck A ct F cq ci O cg id xj qty xk xi w h hi hm he hr
 ·exact take_8 ck A ct F cq ci O cg id xj qty xk xi w h hi hm he hr
 ·exact take_9 ck A ct F cq ci O cg id xj qty xk xi w h hi hm he hr
structure RB (C:Nat→Value→Prop) (B0:World) (fy:List Od) (mk:Value→List Value) (x:List Bool) (f:Nat→Value) (W:World):Prop where
 c:∀ j,x[j]? = some true→C j (f j)
 bel:Below B0.heap.size B0 W
 m2:x[2]? = some true→x[5]? = some false→ORow W B0.heap.size (f 2) []
 m5:x[5]? = some true→ORow W B0.heap.size (f 5) fy
 m7:x[7]? = some true→f 7 = .agg (mk (f 5)).toArray
 m8:x[8]? = some true→∃ cp,f 8 = .pointer (some ⟨cp,0,none⟩)∧B0.heap.size ≤ cp∧cp < W.heap.size∧Bx W cp (mk (f 5))∧∃ cur,W.heap[cp]? = some (.cells cur 80 (0,0))
 m9:x[9]? = some true→f 9 = f 8
def RBA (cl:(Nat→Value)→Act) (C:Nat→Value→Prop) (B0:World) (fy:List Od) (mk:Value→List Value) (x:List Bool) (cs:Act) (W:World):Prop:=∃ f,cs = cl f∧RB C B0 fy mk x f W
section
variable {C:Nat→Value→Prop} {B0 W W':World} {fy:List Od} {mk:Value→List Value} {x:List Bool} {f:Nat→Value}
theorem rb_val (h:RB C B0 fy mk x f W) (i:Nat) (v:Value) (hv:C i v) (hi:i ≠ 2∧i ≠ 5∧i ≠ 7∧i ≠ 8∧i ≠ 9):RB C B0 fy mk (x.set i true) (upd f i v) W:=by
 obtain ⟨Y,h5,h7,h8,h9⟩:=hi
 refine ⟨zC h.c hv,h.bel,?_,?_,?_,?_,?_⟩ <;> simp only [gq Y,gq h5,gq h7,gq h8,gq h9,zk f v Y.symm,zk f v h5.symm,zk f v h7.symm,zk f v h8.symm,zk f v h9.symm]
 ·exact h.m2
 ·exact h.m5
 ·exact h.m7
 ·exact h.m8
 ·exact h.m9
theorem rb_2 (h:RB C B0 fy mk x f W) (n5:x[5]? = some false) (n8:x[8]? = some false) (n7:x[7]? = some false) (n9:x[9]? = some false) (hc:∀ v,C 2 v):RB C B0 fy mk (x.set 2 true) (upd f 2 (.slice (some (Q W.heap.size 0)) 0 0)) (W.alloc (L #[] 78)) :=
 ⟨zC h.c (hc _),h.bel.alloc h.bel.size _,fun _ _=>(by rw [zr]; exact World.ownsRow_made W #[] 0 h.bel.size (by decide) rfl),fun e=>(by rw [gq (by decide),n5] at e; cases e),fun e=>(by rw [gq (by decide),n7] at e; cases e),fun e=>(by rw [gq (by decide),n8] at e; cases e),fun e=>(by rw [gq (by decide),n9] at e; cases e)⟩
theorem rb_5 (h:RB C B0 fy mk x f W) (Y:x[2]? = some true) (n5:x[5]? = some false) (n7:x[7]? = some false) (n8:x[8]? = some false) (n9:x[9]? = some false) (hc:∀ v,C 5 v) {v':Value} (Z:ORow W' B0.heap.size v' fy) (hg:W.grownBy W' (f 2).ownBlock):RB C B0 fy mk (x.set 5 true) (upd f 5 v') W' :=
 ⟨zC h.c (hc _),h.bel.grown hg h.bel.size (fun k hk=>((h.m2 Y n5).lt k hk).1),fun _ e=>(by rw [gqs n5] at e; cases e),fun _=>(by rw [zr]; exact Z),fun e=>(by rw [gq (by decide),n7] at e; cases e),fun e=>(by rw [gq (by decide),n8] at e; cases e),fun e=>(by rw [gq (by decide),n9] at e; cases e)⟩
theorem rb_7 (h:RB C B0 fy mk x f W) (n8:x[8]? = some false) (n9:x[9]? = some false) (hc:∀ v,C 7 v):RB C B0 fy mk (x.set 7 true) (upd f 7 (.agg (mk (f 5)).toArray)) W:=by
 refine ⟨zC h.c (hc _),h.bel,?_,?_,fun _=>?_,fun e=>?_,fun e=>?_⟩
 ·rw [gq (by decide),gq (by decide),zk _ _ (by decide)]; exact h.m2
 ·rw [gq (by decide),zk _ _ (by decide)]; exact h.m5
 ·rw [zr,zk _ _ (by decide)]
 ·rw [gq (by decide),n8] at e; cases e
 ·rw [gq (by decide),n9] at e; cases e
theorem rb_8 (h:RB C B0 fy mk x f W) (h5:x[5]? = some true) (h7:x[7]? = some true) (n9:x[9]? = some false) (hc:∀ v,C 8 v):RB C B0 fy mk (x.set 8 true) (upd f 8 (J W.heap.size 0)) (W.alloc (L (mk (f 5)).toArray 80)):=by
 have E:=fw W (L (mk (f 5)).toArray 80)
 refine ⟨zC h.c (hc _),h.bel.alloc h.bel.size _,fun _ e=>?_,fun _=>?_,fun _=>?_,fun _=>⟨W.heap.size,zr _ _ _,h.bel.size,by simp,?_,?_⟩,fun e=>?_⟩
 ·rw [gq (by decide),h5] at e; cases e
 ·rw [zk _ _ (by decide)]; exact zM (h.m5 h5) E
 ·rw [zk _ _ (by decide),zk _ _ (by decide)]; exact h.m7 h7
 ·rw [zk _ _ (by decide)]; exact zq W (mk (f 5)) 80
 ·exact ⟨_,heap_alloc_new W _⟩
 ·rw [gq (by decide),n9] at e; cases e
theorem rb_9 (h:RB C B0 fy mk x f W) (hc:∀ v,C 9 v):RB C B0 fy mk (x.set 9 true) (upd f 9 (f 8)) W:=by
 refine ⟨zC h.c (hc _),h.bel,?_,?_,?_,?_,fun _=>?_⟩
 ·rw [gq (by decide),gq (by decide),zk _ _ (by decide)]; exact h.m2
 ·rw [gq (by decide),zk _ _ (by decide)]; exact h.m5
 ·rw [gq (by decide),zk _ _ (by decide),zk _ _ (by decide)]; exact h.m7
 ·rw [gq (by decide),zk _ _ (by decide),zk _ _ (by decide)]; exact h.m8
 ·rw [zr,zk _ _ (by decide)]
end
theorem l05Begin_any (next:Int) (vb:Value) (l:List Od) (w:World) (hr:RdR Od.vs 6 w vb l) (hs:SlOk vb) (hn:l.length ≤ 1000) :
  Calls Tryz.prog 51 #[.agg #[I next,vb]] w fun x w'=>∃ cp vl,x = .returned (J cp 0)∧MS cp w.heap.size w' vl (.slice none 0 0) vb (gr0 next l) zOd 0 next [] l∧yp w w':=by
 obtain ⟨i0,vA,uH,uI,uW⟩:=info_parts Tryz.infoOrder
 obtain ⟨a,cap,rfl,xA,hc⟩:=id hr
 have HNA:Hid (l ≠ []→∀ b off n c,Value.slice a l.length cap = .slice (some (Q b off)) n c→b < w.heap.size):=fun xD b off n c e=>by
  obtain ⟨b2,o2,e2,E,-⟩:=hc xD
  simp only [Value.slice.injEq] at e
  rw [e.1] at e2
  simp only [Option.some.injEq,Addr.mk.injEq,and_true] at e2
  rw [e2.1]; exact E
 obtain ⟨xz,HX⟩:=fE w [I next,.slice a l.length cap] 34
 have HB:=H xz
 have uN:=H (zh hr xz yb)
 have km:=H hs
 clear hr hs hc xz
 go_enter Tryz.func51,Tryz.ntmps51
 refine fD fun zb HK=>?_
 go_wp2_with fail
 refine U HK _ _ ?_
 clear HK
 generalize (w.alloc (L #[I next,.slice a l.length cap] 34)) = xo at HB HX uN ⊢
 have hSX:w.heap.size < xo.heap.size:=yL _ _ (K (U HX) 0 rfl)
 go_wp2_with fail
 refine zm (RBA (fun f=>{ tmps:=#[.agg #[I next,.slice a l.length cap],J w.heap.size 0,f 9,f 0,f 1,f 2,f 3,f 4,f 5,f 6,f 7,f 8],defers:=[] }) (fun j v=>∀ u,([some (J w.heap.size 0),some (I next),none,some (J w.heap.size 1),some (.slice a l.length cap),none,some (.agg #[I next,.slice a l.length cap]),none,none,none]:List (Option Value))[j]? = some (some u)→v = u) xo l (fun v=>msV v (.slice none 0 0) (.slice a l.length cap) (gr0 next l) zOd 0 next)) (by kernel_rfl) ?_ ?_ ?_
 ·have vL:∀ j,(List.replicate 10 false)[j]? = some true→False:=fun j V=>by rw [yJ] at V; split at V <;> simp at V
  exact ⟨fun j=>if j = 9 then .pointer none else M,rfl,⟨fun j V=>(vL j V).elim,⟨rfl,rfl,rfl,Nat.le_refl _,fun _ _=>rfl⟩,fun h=>(vL _ h).elim,fun h=>(vL _ h).elim,fun h=>(vL _ h).elim,fun h=>(vL _ h).elim,fun h=>(vL _ h).elim⟩⟩
 ·rintro x cs h2 ⟨f,rfl,R⟩ hx xO
  have xq:=zN xO hx (acyc _ (by kernel_rfl))
  obtain ⟨cp,e8,hO,hOY,kA,hty⟩:=R.m8 (xq 8 (by simp))
  have e9:=(R.m9 (xq 9 (by simp))).trans e8
  have HMS:Hid (MS cp w.heap.size h2 (f 5) (.slice none 0 0) (.slice a l.length cap) (gr0 next l) zOd 0 next [] l):=⟨kA,zS (R.m5 (xq 5 (by simp))) (U HB).size,⟨none,0,rfl,by decide,fun h=>absurd rfl h⟩,zh (U uN) R.bel yb,U km,hty,yO (U HB).size hO,fun _=>⟨rfl,rfl,rfl⟩,fun h=>absurd rfl h,U HNA⟩
  have HBY:=H ((U HB).trans (R.bel.mono (U HB).size))
  dsimp only
  rw [e9]
  clear R xq xO hx e8 e9 kA hty hO hOY
  generalize f 0 = v0,f 1 = v1,f 2 = v2,f 3 = v3,f 4 = v4
  generalize f 5 = v5 at *
  generalize f 6 = v6,f 7 = v7,f 8 = v8
  go_wp2_with fail
  go_ret
  exact ⟨cp,v5,rfl,U HMS,U HBY⟩
 ·rintro x cs hj i op ⟨f,rfl,R⟩ X hx Z xr D
  have xu:=H R
  have vj:=R.bel
  match i,Z with
  | 0,Z =>
   obtain rfl:=yc Z
   clear D R X
   rw [if_pos (by rfl)];unfold Oper.wp;go_simp
   exact ⟨upd f 0 (J w.heap.size 0),by simp [upd],rb_val (U xu) 0 _ (yj rfl) (by decide)⟩
  | 1,Z =>
   obtain rfl:=yc Z
   have g0:=R.c 0 (yf D 0 rfl) _ rfl
   have z0:=K (zf (U HX) vj hSX) 0 rfl
   clear D R X
   rw [if_pos (by rfl)];unfold Oper.wp;go_simp
   exact ⟨upd f 1 (I next),by simp [upd,g0],rb_val (U xu) 1 _ (yj rfl) (by decide)⟩
  | 2,Z =>
   obtain rfl:=yc Z
   have n5:x[5]? = some false:=zU X 10 2 5 (by kernel_rfl) hx (by simp) xr
   have n7:x[7]? = some false:=zU X 10 2 7 (by kernel_rfl) hx (by simp) xr
   have n8:x[8]? = some false:=zU X 10 2 8 (by kernel_rfl) hx (by simp) xr
   have n9:x[9]? = some false:=zU X 10 2 9 (by kernel_rfl) hx (by simp) xr
   clear D R X
   rw [if_pos (by rfl)];unfold Oper.wp;go_simp
   exact ⟨upd f 2 (.slice (some (Q hj.heap.size 0)) 0 0),by simp [upd],rb_2 (U xu) n5 n8 n7 n9 (fun v u hu=>by cases hu)⟩
  | 3,Z =>
   obtain rfl:=yc Z
   clear D R X
   rw [if_pos (by rfl)];unfold Oper.wp;go_simp
   exact ⟨upd f 3 (J w.heap.size 1),by simp [upd],rb_val (U xu) 3 _ (yj rfl) (by decide)⟩
  | 4,Z =>
   obtain rfl:=yc Z
   have g3:=R.c 3 (yf D 3 rfl) _ rfl
   have z1:=K (zf (U HX) vj hSX) 1 rfl
   clear D R X
   rw [if_pos (by rfl)];unfold Oper.wp;go_simp
   exact ⟨upd f 4 (.slice a l.length cap),by simp [upd,g3],rb_val (U xu) 4 _ (yj rfl) (by decide)⟩
  | 5,Z =>
   obtain rfl:=yc Z
   have n7:x[7]? = some false:=zU X 10 5 7 (by kernel_rfl) hx (by simp) xr
   have n8:x[8]? = some false:=zU X 10 5 8 (by kernel_rfl) hx (by simp) xr
   have n9:x[9]? = some false:=zU X 10 5 9 (by kernel_rfl) hx (by simp) xr
   have k2:x[2]? = some true:=D ⟨2,.data⟩ (by simp) rfl
   have g4:=R.c 4 (yf D 4 rfl) _ rfl
   have HO0:=H (R.m2 k2 xr)
   have HRDV:Hid (∀ ad,a = some ad→∀ j u,(l.flatMap Od.vs)[j]? = some u→hj.cell? (ad.add j) = some u):=fun ad had=>by
    have h:=zh (U uN) vj yb
    rw [had] at h
    exact rd_src h
   clear D R X
   rw [if_pos (by rfl)]
   rcases U km with h | ⟨ad,nn,cc,h⟩
   ·simp only [Value.slice.injEq] at h
    have hL:l = []:=List.length_eq_zero_iff.1 h.2.1
    refine eQ (.tmp 5) (.tmp 7) 32 rfl xo.heap.size 78 i0 6 Tryz.underlying32 vA (f 2) 0 [] rfl (U HO0) (by show f 4 = _; rw [g4,h.1,h.2.1,h.2.2]) ?_
    exact ⟨upd f 5 (f 2),rfl,rb_5 (U xu) k2 xr n7 n8 n9 (fun v u hu=>by cases hu) (by rw [hL]; exact U HO0) (yS _ _)⟩
   ·simp only [Value.slice.injEq] at h
    refine wp_append_own hj (.tmp 5) (.tmp 7) 32 rfl xo.heap.size 78 i0 _ 6 56 Tryz.underlying32 vA uH uI uW rfl (by decide) (f 2) 0 [] rfl (U HO0) ad l.length cap (l.flatMap Od.vs) (by show f 4 = _; rw [g4,h.1]) (by rw [zZ Od.len]) (U HRDV ad h.1) (bZ l) (by unfold maxLen; omega) (by omega) vj.size ?_
    intro v' w' xS vG _
    refine ⟨upd f 5 v',rfl,rb_5 (U xu) k2 xr n7 n8 n9 (fun v u hu=>by cases hu) ?_ vG⟩
    show w'.ownsRow _ _ _ _ l.length _
    simpa using xS
  | 6,Z =>
   obtain rfl:=yc Z
   have z0:=K (zf (U HX) vj hSX) 0 rfl
   have z1:=K (zf (U HX) vj hSX) 1 rfl
   clear D R X
   rw [if_pos (by rfl)];unfold Oper.wp;go_simp
   exact ⟨upd f 6 (.agg #[I next,.slice a l.length cap]),by simp [upd],rb_val (U xu) 6 _ (yj rfl) (by decide)⟩
  | 7,Z =>
   obtain rfl:=yc Z
   have g1:=R.c 1 (yf D 1 rfl) _ rfl
   have g6:=R.c 6 (yf D 6 rfl) _ rfl
   have n8:x[8]? = some false:=zU X 10 7 8 (by kernel_rfl) hx (by simp) xr
   have n9:x[9]? = some false:=zU X 10 7 9 (by kernel_rfl) hx (by simp) xr
   obtain ⟨ga,gc,g5⟩:=cd (zK (R.m5 (yf D 5 rfl)) (by omega))
   have qC:=H (rb_7 (U xu) n8 n9 (fun v u hu=>by cases hu))
   rw [g5] at qC
   unfold msV at qC
   clear D R X
   rw [if_pos (by rfl)];unfold Oper.wp;go_simp
   exact ⟨_,by simp [upd,g1,g5,g6]; exact ⟨rfl,rfl,rfl,rfl,rfl,rfl,rfl,rfl⟩,U qC⟩
  | 8,Z =>
   obtain rfl:=yc Z
   have n9:x[9]? = some false:=zU X 10 8 9 (by kernel_rfl) hx (by simp) xr
   have k7:x[7]? = some true:=D ⟨7,.data⟩ (by simp) rfl
   have k5:x[5]? = some true:=yh X 7 rfl k7 5 rfl
   have g7:=R.m7 k7
   have qC:=H (rb_8 (U xu) k5 k7 n9 (fun v u hu=>by cases hu))
   simp only [msV,gr0] at g7 qC
   clear D R X
   rw [if_pos (by rfl)];unfold Oper.wp;go_simp
   exact ⟨upd f 8 (J hj.heap.size 0),by simp [upd,g7],U qC⟩
  | 9,Z =>
   obtain rfl:=yc Z
   clear D R X
   rw [if_pos (by rfl)];unfold Oper.wp;go_simp
   exact ⟨upd f 9 (f 8),by simp [upd],rb_9 (U xu) (fun v u hu=>by cases hu)⟩
  | i + 10,Z=>simp at Z
end Go.Proofs.YtnphbkgfjanmgaaGreatDoor
