/-
  A day's end done, by the model: proved by walking the method.
-/
import Derived.Test.YtnphbkgfjanmgaaGreatDoorBj39
set_option linter.unusedVariables false
set_option maxHeartbeats 6400000
set_option maxRecDepth 100000
namespace Go.Proofs.YtnphbkgfjanmgaaGreatDoor
open Go.RowKit
theorem drop_getR {l:List Od} {k:Nat} {c:Od} (h:l[k]? = some c):l.drop k = c :: l.drop (k + 1):=by
 obtain ⟨Q,rfl⟩:=yG.1 h
 exact xc Q
theorem oRow_gr {W W':World} {B:Nat} {v:Value} {l:List Od} {G:Option Nat} (h:ORow W B v l) (hg:W.grownBy W' G) (hn:∀ k,v.ownBlock = some k→some k ≠ G):ORow W' B v l:=by
 rcases h.2 with ⟨e,n⟩ | ⟨g,cap,xF,rfl,Y,hh,r⟩
 ·exact ⟨h.1,.inl ⟨e,n⟩⟩
 ·exact ⟨h.1,.inr ⟨g,cap,xF,rfl,Y,(hg.block g (yY.1 hh).1 (hn g rfl)).trans hh,r⟩⟩
theorem rd_grO {W W':World} {l:List Od} {v:Value} {G:Option Nat} (h:RdR Od.vs 6 W v l) (hg:W.grownBy W' G) (hn:l ≠ []→∀ b' off n c,v = .slice (some (U b' off)) n c→some b' ≠ G):RdR Od.vs 6 W' v l:=by
 obtain ⟨a,cap,rfl,hl,hc⟩:=h
 refine ⟨a,cap,rfl,hl,fun xD=>?_⟩
 obtain ⟨b',off,rfl,Y,V⟩:=hc xD
 have kc:=hg.block b' Y (hn xD b' off _ _ rfl)
 refine ⟨b',off,rfl,yJ Y hg.size,fun j c O i u hi=>?_⟩
 rw [yQ (a:=(U b' (off + j * 6 + i))) kc]
 exact V j c O i u hi
theorem ms_dayrow {hj B yl:Nat} {hb W:World} {vl vm va v':Value} {g:Gr} {t:Od} {kd n0:Int} {m m' l0:List Od} (h:MS hj B hb vl vm va g t kd n0 m l0) (hg:hb.grownBy W vm.ownBlock) (hZ:∀ k,vm.ownBlock = some k→yl ≤ k) (hOZ:hj < yl) (hLZ:∀ k,vl.ownBlock = some k→k < yl) (N:ORow W yl v' m') (hq:g.bg ≠ 0) (hl:m'.length ≤ 1073741824):MS hj B (W.setCell (U hj 10) v') vl v' va g t kd n0 m' l0:=by
 have hOB:=h.hO
 have nO:some hj ≠ vm.ownBlock:=fun e=>by have:=hZ hj e.symm; omega
 have hd:m' ≠ []→∀ b off n c,v' = .slice (some (U b off)) n c→b ≠ hj∧n ≤ c:=fun xD b off n c e=>by
  obtain ⟨g',cap,e',hc,hB,-⟩:=cI N xD
  rw [e'] at e
  simp only [Value.slice.injEq,Option.some.injEq,Addr.mk.injEq,and_true] at e
  obtain ⟨⟨rfl,-⟩,rfl,rfl⟩:=e
  exact ⟨by omega,hc⟩
 obtain ⟨xF,hty⟩:=h.typ
 refine ⟨bd (aS h.box (hg.block hj h.lt nO)) (by show 10 < 13; decide),dX h.nl [v'] 10 W (oRow_gr h.row hg (fun k hk e=>by have:=hZ k e.symm; have:=hLZ k hk; omega)),cZ (us:=[v']) (o:=10) (zK N hl) (fun xD b off n c e=>(hd xD b off n c e).1),cZ (us:=[v']) (o:=10) (rd_grO h.ahd hg (fun xD b' off n c e e2=>by have:=h.na xD b' off n c e; have:=hZ b' e2.symm; omega)) (fun xD b' off n c e=>by have:=h.na xD b' off n c e; omega),h.sla,dS [v'] 10 W ⟨xF,(hg.block hj h.lt nO).trans hty⟩,h.hO,fun e=>absurd e hq,hd,h.na⟩
structure RD (C:Nat→Value→Prop) (hj:Nat) (fG:World→Value→Prop) (B0:World) (c0:Od) (x:List Bool) (f:Nat→Value) (W:World):Prop where
 c:∀ j,x[j]? = some true→C j (f j)
 bel:x[13]? = some false→Below B0.heap.size B0 W
 m4:x[12]? = some true→x[13]? = some false→∃ b,f 12 = .slice (some ⟨b,0,none⟩) 1 1∧b < W.heap.size∧W.rangeAt b 0 c0.vs
 m5:x[13]? = some true→x[16]? = some false→fG W (f 13)
 z:x[16]? = some true→∃ W0,fG W0 (f 13)∧W = W0.setCell ⟨hj,10,none⟩ (f 13)
def RDA (cl:(Nat→Value)→Act) (C:Nat→Value→Prop) (hj:Nat) (fG:World→Value→Prop) (B0:World) (c0:Od) (x:List Bool) (a:Act) (W:World):Prop:=∃ f,a = cl f∧RD C hj fG B0 c0 x f W
section
variable {C:Nat→Value→Prop} {hj:Nat} {fG:World→Value→Prop} {B0 W W':World} {c0:Od} {x:List Bool} {f:Nat→Value}
theorem bV (h:RD C hj fG B0 c0 x f W) (i:Nat) (v:Value) (hv:C i v) (hi:i ≠ 12∧i ≠ 13∧i ≠ 16):RD C hj fG B0 c0 (x.set i true) (upd f i v) W:=by
 obtain ⟨E,h3,h6⟩:=hi
 refine ⟨zB h.c hv,?_,?_,?_,?_⟩ <;> simp only [gq E,gq h3,gq h6,zl f v E.symm,zl f v h3.symm]
 ·exact h.bel
 ·exact h.m4
 ·exact h.m5
 ·exact h.z
theorem rdd_12 (h:RD C hj fG B0 c0 x f W) (n:x[13]? = some false) (n6:x[16]? = some false) (hc:∀ v,C 12 v):RD C hj fG B0 c0 (x.set 12 true) (upd f 12 (.slice (some (U W.heap.size 0)) 1 1)) (W.alloc (Obj.cells c0.vs.toArray 78)) :=
 ⟨zB h.c (hc _),fun _=>(h.bel n).alloc (h.bel n).size _,fun _ _=>⟨W.heap.size,zr _ _ _,by rw [zi]; omega,zn W c0.vs _⟩,fun e=>(by rw [gq (by decide),n] at e; cases e),fun e=>by rw [gq (by decide),n6] at e; cases e⟩
theorem rdd_13 (h:RD C hj fG B0 c0 x f W) (n:x[13]? = some false) (n6:x[16]? = some false) (hc:∀ v,C 13 v) {v':Value} (ha:fG W' v'):RD C hj fG B0 c0 (x.set 13 true) (upd f 13 v') W' :=
 ⟨zB h.c (hc _),fun e=>(by rw [gqs n] at e; cases e),fun _ e=>(by rw [gqs n] at e; cases e),fun _ _=>(by rw [zr]; exact ha),fun e=>by rw [gq (by decide),n6] at e; cases e⟩
theorem rdd_16 (h:RD C hj fG B0 c0 x f W) (h3:x[13]? = some true) (n6:x[16]? = some false) (hc:∀ v,C 16 v):RD C hj fG B0 c0 (x.set 16 true) f (W.setCell (U hj 10) (f 13)):=by
 refine ⟨fun j O=>?_,fun e=>?_,fun _ e=>?_,fun _ e=>?_,fun _=>⟨W,h.m5 h3 n6,rfl⟩⟩
 ·by_cases hjm:j = 16
  ·subst hjm; exact hc _
  ·rw [gq (fun e=>hjm e.symm)] at O; exact h.c j O
 ·rw [gq (by decide),h3] at e; cases e
 ·rw [gq (by decide),h3] at e; cases e
 ·rw [gqs n6] at e; cases e
end
theorem take_8 {hj B:Nat} {vl vd va:Value} {g:Gr} {t:Od} {kd n0:Int} {dy l0:List Od} (ck L ct F cq ci:Int) (X:Nat) (cg:ByteArray) (id xi qty xj xh:Int) (w:World) (h:MS hj B w vl vd va g t kd n0 dy l0) (hi:GI g) (hm:MR g t kd dy) (he:okE ⟨8,⟨ck,L,ct,F,cq,ci,X,cg⟩,id,xi,qty,xj,xh⟩ = true) (hr:zD g ⟨8,⟨ck,L,ct,F,cq,ci,X,cg⟩,id,xi,qty,xj,xh⟩ = 0):Calls Tryz.prog 52 #[J hj 0,.agg (yv 8 ck L ct F cq ci X cg id xi qty xj xh).toArray] w fun x w'=>TakE hj B va n0 l0 g t kd dy ⟨8,⟨ck,L,ct,F,cq,ci,X,cg⟩,id,xi,qty,xj,xh⟩ w x w':=by
 have hsf:=sfl
 have hO:=h.lt
 have vV:=h.base
 have qm:Hid (∀ w' vS vh,Below B w w'→MS hj B w' vS vh va (aQ g ⟨8,⟨ck,L,ct,F,cq,ci,X,cg⟩,id,xi,qty,xj,xh⟩) (tkM g t ⟨8,⟨ck,L,ct,F,cq,ci,X,cg⟩,id,xi,qty,xj,xh⟩) (kdM kd ⟨8,⟨ck,L,ct,F,cq,ci,X,cg⟩,id,xi,qty,xj,xh⟩) n0 (dyM g dy ⟨8,⟨ck,L,ct,F,cq,ci,X,cg⟩,id,xi,qty,xj,xh⟩) l0→TakE hj B va n0 l0 g t kd dy ⟨8,⟨ck,L,ct,F,cq,ci,X,cg⟩,id,xi,qty,xj,xh⟩ w (.returned (.tuple #[])) w'):=fun w' vS vh Q E=>⟨rfl,Q,vS,vh,E⟩
 have h0:=rule8 (e:=⟨8,⟨ck,L,ct,F,cq,ci,X,cg⟩,id,xi,qty,xj,xh⟩) rfl hr
 have uh:Hid (aQ g ⟨8,⟨ck,L,ct,F,cq,ci,X,cg⟩,id,xi,qty,xj,xh⟩ = { g with bg:=8 }):=by show _ = _; rw [step8 rfl]; simp only [begG,if_pos h0]
 have ux:Hid (tkM g t ⟨8,⟨ck,L,ct,F,cq,ci,X,cg⟩,id,xi,qty,xj,xh⟩ = t∧kdM kd ⟨8,⟨ck,L,ct,F,cq,ci,X,cg⟩,id,xi,qty,xj,xh⟩ = kd∧dyM g dy ⟨8,⟨ck,L,ct,F,cq,ci,X,cg⟩,id,xi,qty,xj,xh⟩ = g.l.filter isDy):=⟨rfl,rfl,rfl⟩
 have hdy:dy = []:=by rw [hm.dy,if_neg (by omega)]
 have hvd:=(h.eqd h0).2.2
 subst hdy
 subst hvd
 have jk:=hi.len
 obtain ⟨la,lc,rfl⟩:=cA (zK h.row (yN jk (by decide)))
 obtain ⟨i0,vA,uL,uM,uF⟩:=info_parts Tryz.infoOrder
 clear h0
 generalize TakE hj B va n0 l0 g t kd [] ⟨8,⟨ck,L,ct,F,cq,ci,X,cg⟩,id,xi,qty,xj,xh⟩ w = C at qm ⊢
 obtain ⟨xz,HX⟩:=fJ w (yv 8 ck L ct F cq ci X cg id xi qty xj xh) 52
 have HM:=M (zv h xz)
 have HB:=M (xz.mono vV)
 clear h xz hi hm he hr
 go_enter Tryz.func52,Tryz.ntmps52
 refine fI fun hR HK=>?_
 go_wp2_with fail
 refine H HK _ _ ?_
 clear HK
 generalize (w.alloc (A (yv 8 ck L ct F cq ci X cg id xi qty xj xh).toArray 52)) = W1 at HX HM HB ⊢
 have c9:=R (H HM).box 9 rfl
 have q9:=zd (H HM).box 9 (by show 9 < 13; decide)
 have xu:Hid (Below B w (World.setCells W1 hj 9 [.bool true])):=zL (H HB) ya (H HM) 9 _
 have xQ:Hid (MS hj B (World.setCells W1 hj 9 [.bool true]) (.slice la g.l.length lc) (.slice none 0 0) va { g with bg:=8 } t kd n0 [] l0):=bQ (H HM) 9 [.bool true] (by simp) rfl rfl (fun h=>absurd (show (8:Int) = 0 from h) (by decide))
 have e0:(World.setCells W1 hj 9 [.bool true]).cell? (U w.heap.size 0) = some (I 8):=R (aS (H HX) (bG hj w.heap.size (by omega) _ 9 W1)) 0 rfl
 clear HX HM HB
 refine fI fun hR HK=>?_
 go_wp2_with fail
 refine H HK _ _ ?_
 clear HK
 change Code.wp _ _ _ _ (World.setCells W1 hj 9 [.bool true])
 generalize World.setCells W1 hj 9 [.bool true] = cp at xu xQ e0 ⊢
 have HZ:Hid (∀ b,(.slice la g.l.length lc:Value).ownBlock = some b→b < cp.heap.size):=fun b Y=>((H xQ).row.lt b Y).2
 have HOX:Hid (hj < cp.heap.size):=(H xQ).lt
 clear c9 q9
 go_wp2_with fail
 go_loopw [4] (fun iv wr=>∃ (k:Nat) (m:List Od) (vm:Value),k ≤ g.l.length∧iv = I k∧Hid (g.l.filter isDy = m ++ (g.l.drop k).filter isDy)∧m.length ≤ k∧Hid (MS hj B wr (.slice la g.l.length lc) vm va { g with bg:=8 } t kd n0 m l0)∧Hid (ORow wr cp.heap.size vm m)∧Hid (Below B w wr)∧cp.heap.size ≤ wr.heap.size) (fun iv _=>g.l.length - (intOf iv).toNat)
 case atStart=>exact ⟨0,[],_,Nat.zero_le _,rfl,rfl,Nat.le_refl _,xQ,World.ownsRow_nil _ _ _ _,xu,Nat.le_refl _⟩
 case round =>
  obtain ⟨k,m,vm,hk,rfl,uQ,kJ,HMk,HOk,HBk,kS⟩:=hrel
  clear xQ xu e0
  have c1:=R (H HMk).box 1 rfl
  by_cases xI:k < g.l.length
  ·obtain ⟨c,ur⟩:∃ c,g.l[k]? = some c:=⟨_,yH xI⟩
   have HP:Hid (g.l.filter isDy = m ++ (c :: g.l.drop (k + 1)).filter isDy):=by
    have:=H uQ
    rw [drop_getR ur] at this
    exact this
   obtain ⟨b,rfl,Y,V⟩:∃ b,la = some (U b 0)∧b < wr.heap.size∧wr.rangeAt b (k * 6) c.vs:=by
    obtain ⟨a9,c9,e9,-,aG⟩:=zK (H HMk).row (yN jk (by decide))
    obtain ⟨b9,o9,uy,oK,hcl9⟩:=aG (by intro h; rw [h] at ur; simp at ur)
    obtain ⟨g9,p9,uk,-,-,-⟩:=cI (H HMk).row (by intro h; rw [h] at ur; simp at ur)
    simp only [Value.slice.injEq,true_and] at e9 uk
    rw [e9.1,uy] at uk
    simp only [Option.some.injEq,Addr.mk.injEq,and_true] at uk
    obtain ⟨⟨rfl,rfl⟩,-⟩:=uk
    exact ⟨b9,e9.1.trans uy,oK,fun i u hi=>by have:=hcl9 k c ur i u hi; rw [Nat.zero_add] at this; exact this⟩
   obtain ⟨g0,g1,g2,g3,g4,g5⟩:=zA V
   have uJ:(k:Int) < g.l.length:=by omega
   clear ur uQ
   by_cases uj:c.life = 1
   ·rw [uj] at g4
    have HP1:Hid (g.l.filter isDy = (m ++ [c]) ++ (g.l.drop (k + 1)).filter isDy):=by
     have:=H HP
     rw [List.filter_cons_of_pos (by simp [isDy,uj])] at this
     show _ = _
     rw [this]; simp
    have HC0:Hid (wr.rangeAt b (k * 6) c.vs):=V
    clear HP V uj
    go_wp2_with fail
    refine zk (RDA (fun f=>{ tmps:=#[J hj 0,.agg (yv 8 ck L ct F cq ci X cg id xi qty xj xh).toArray,Z,J w.heap.size 0,I k,J hj 0,J hj 0,J hj 9,J w.heap.size 0,I 8,.bool false,.bool false,Z,Z,Z,Z,Z,Z,Z,Z,Z,Z,Z,Z,Z,Z,Z,Z,Z,Z,Z,Z,Z,Z,Z,.bool false,.bool false,Z,Z,Z,Z,Z,Z,Z,Z,Z,Z,Z,Z,Z,Z,Z,Z,Z,Z,Z,Z,Z,Z,Z,Z,Z,Z,.bool false,.bool false,Z,Z,Z,Z,Z,Z,Z,Z,Z,Z,Z,Z,Z,Z,Z,Z,Z,Z,Z,.bool false,.bool false,Z,Z,Z,Z,.bool false,.bool false,Z,Z,Z,Z,Z,Z,Z,Z,Z,Z,Z,Z,Z,Z,Z,.bool false,.bool false,Z,Z,Z,Z,Z,Z,Z,Z,Z,Z,Z,Z,Z,Z,Z,.bool true,.bool true,I k,J hj 0,J hj 0,J hj 1,.slice (some (U b 0)) g.l.length lc,I g.l.length,.bool true,u133,u134,J hj 0,J hj 0,J hj 1,.slice (some (U b 0)) g.l.length lc,I k,J b (k * 6),J b (k * 6 + 4),I 1,.bool true,f 0,f 1,f 2,f 3,f 4,f 5,f 6,f 7,f 8,f 9,f 10,f 11,f 12,f 13,f 14,f 15,Z,Z,Z,Z,Z,Z,Z,Z,Z,Z,Z,Z,Z,Z,Z,Z,Z,Z,Z,Z,Z,Z,Z,Z,Z],defers:=[] }) (fun j v=>∀ u,([some (J hj 0),some (J hj 0),some (J hj 0),some (J hj 10),some (vm),some (J hj 0),some (J hj 0),some (J hj 1),some (.slice (some (U b 0)) g.l.length lc),some (I k),some (J b (k * 6)),some (.agg (yw c.id c.side c.ticks c.left c.life c.tag).toArray),none,none,some (J hj 0),some (J hj 10),none]:List (Option Value))[j]? = some (some u)→v = u) hj (fun W v=>ORow W cp.heap.size v (m ++ [c])∧wr.grownBy W vm.ownBlock) wr c) (by kernel_rfl) ?_ ?_ ?_
    ·have vL:∀ j,(List.replicate 17 false)[j]? = some true→False:=fun j O=>by rw [yI] at O; split at O <;> simp at O
     exact ⟨fun j=>[u144,u145,u146,u147,u148,u149,u150,u151,u152,u153,u154,u155,u156,u157,u158,u159].getD j Z,rfl,⟨fun j O=>(vL j O).elim,fun _=>⟨rfl,rfl,rfl,Nat.le_refl _,fun _ _=>rfl⟩,fun h=>(vL _ h).elim,fun h=>(vL _ h).elim,fun h=>(vL _ h).elim⟩⟩
    ·rintro x fG hb ⟨f,rfl,K⟩ hx xN
     have xo:=zN xN hx (acyc _ (by kernel_rfl))
     obtain ⟨W0,⟨N,hg0⟩,eY⟩:=K.z (xo 16 (by simp))
     have hZk:∀ k,vm.ownBlock = some k→cp.heap.size ≤ k:=fun k hk=>((H HOk).lt k hk).1
     have vz:Hid (MS hj B (W0.setCell (U hj 10) (f 13)) (.slice (some (U b 0)) g.l.length lc) (f 13) va { g with bg:=8 } t kd n0 (m ++ [c]) l0):=ms_dayrow (H HMk) hg0 hZk (H HOX) (H HZ) N (fun h=>absurd (show (8:Int) = 0 from h) (by decide)) (by simp; omega)
     have nO:some hj ≠ (f 13).ownBlock:=fun e=>by have:=(N.lt hj e.symm).1; have:=H HOX; omega
     have jo:Hid (ORow (W0.setCell (U hj 10) (f 13)) cp.heap.size (f 13) (m ++ [c])):=dX nO [f 13] 10 W0 N
     have ug:Hid (Below B w (W0.setCell (U hj 10) (f 13))):=zj hj (H HMk).hO [f 13] 10 W0 ((H HBk).trans (dR hg0 (fun k hk=>by have:=hZk k hk; have:=(H HMk).hO; have:=H HOX; omega) (H HMk).base))
     have HS5:Hid (cp.heap.size ≤ (W0.setCell (U hj 10) (f 13)).heap.size):=by have:=(gr_set W0 (U hj 10) (f 13)).size; have:=hg0.size; show _ ≤ _; omega
     rw [← eY] at vz jo ug HS5
     clear K xo xN hx N hg0 hZk nO eY
     dsimp only
     generalize f 0 = v0,f 1 = v1,f 2 = v2,f 3 = v3,f 4 = v4,f 5 = v5,f 6 = v6,f 7 = v7,f 8 = v8,f 9 = v9,f 10 = v10,f 11 = v11,f 12 = v12
     generalize f 13 = v13 at *
     generalize f 14 = v14,f 15 = v15
     go_wp2_with fail
     dsimp only [I,J,U,Z,yj,yk,yv,yw,yx]
     go_roundw
     case rel=>exact ⟨k + 1,m ++ [c],v13,by omega,by go_num,HP1,by simp; omega,vz,jo,ug,H HS5⟩
     case measure=>simp [intOf]; omega
    ·rintro x fG xn i op ⟨f,rfl,K⟩ V hx N xq D
     have xt:=M K
     match i,N with
     | 0,N | 1,N | 5,N =>
      obtain rfl:=yb N
      clear D K V
      rw [if_pos (by rfl)];unfold Oper.wp;go_simp
      exact ⟨upd f _ (J hj 0),by simp [upd],bV (H xt) _ _ (yi rfl) (by decide)⟩
     | 2,N =>
      obtain rfl:=yb N
      have g1:=K.c 1 (ye D 1 rfl) _ rfl
      clear D K V
      rw [if_pos (by rfl)];unfold Oper.wp;go_simp
      exact ⟨upd f 2 (J hj 0),by simp [upd,g1],bV (H xt) 2 _ (yi rfl) (by decide)⟩
     | 3,N =>
      obtain rfl:=yb N
      have g2:=K.c 2 (ye D 2 rfl) _ rfl
      clear D K V
      rw [if_pos (by rfl)];unfold Oper.wp;go_simp
      exact ⟨upd f 3 (J hj 10),by simp [upd,g2],bV (H xt) 3 _ (yi rfl) (by decide)⟩
     | 4,N =>
      obtain rfl:=yb N
      have g3:=K.c 3 (ye D 3 rfl) _ rfl
      have aP:x[13]? = some false:=zU V 17 4 13 (by kernel_rfl) hx (by simp) xq
      have jV:=M (zv (H HMk) (K.bel aP))
      have zz:=R (H jV).box 10 rfl
      clear D K V
      rw [if_pos (by rfl)];unfold Oper.wp;go_simp
      exact ⟨upd f 4 (vm),by simp [upd,g3],bV (H xt) 4 _ (yi rfl) (by decide)⟩
     | 6,N =>
      obtain rfl:=yb N
      have g5:=K.c 5 (ye D 5 rfl) _ rfl
      clear D K V
      rw [if_pos (by rfl)];unfold Oper.wp;go_simp
      exact ⟨upd f 6 (J hj 0),by simp [upd,g5],bV (H xt) 6 _ (yi rfl) (by decide)⟩
     | 7,N =>
      obtain rfl:=yb N
      have g6:=K.c 6 (ye D 6 rfl) _ rfl
      clear D K V
      rw [if_pos (by rfl)];unfold Oper.wp;go_simp
      exact ⟨upd f 7 (J hj 1),by simp [upd,g6],bV (H xt) 7 _ (yi rfl) (by decide)⟩
     | 8,N =>
      obtain rfl:=yb N
      have g7:=K.c 7 (ye D 7 rfl) _ rfl
      have aP:x[13]? = some false:=zU V 17 8 13 (by kernel_rfl) hx (by simp) xq
      have jV:=M (zv (H HMk) (K.bel aP))
      have zz:=R (H jV).box 1 rfl
      clear D K V
      rw [if_pos (by rfl)];unfold Oper.wp;go_simp
      exact ⟨upd f 8 (.slice (some (U b 0)) g.l.length lc),by simp [upd,g7],bV (H xt) 8 _ (yi rfl) (by decide)⟩
     | 9,N =>
      obtain rfl:=yb N
      clear D K V
      rw [if_pos (by rfl)];unfold Oper.wp;go_simp
      exact ⟨upd f 9 (I k),by simp [upd],bV (H xt) 9 _ (yi rfl) (by decide)⟩
     | 10,N =>
      obtain rfl:=yb N
      have g8:=K.c 8 (ye D 8 rfl) _ rfl
      have g9:=K.c 9 (ye D 9 rfl) _ rfl
      clear D K V
      rw [if_pos (by rfl)];unfold Oper.wp;go_simp
      exact ⟨upd f 10 (J b (k * 6)),by simp [upd,g8,g9],bV (H xt) 10 _ (yi rfl) (by decide)⟩
     | 11,N =>
      obtain rfl:=yb N
      have qp:=K.c 10 (ye D 10 rfl) _ rfl
      have aP:x[13]? = some false:=zU V 17 11 13 (by kernel_rfl) hx (by simp) xq
      obtain ⟨y0,y1,y2,y3,y4,y5⟩:=zA (zc (H HC0) (K.bel aP) Y)
      clear D K V
      rw [if_pos (by rfl)];unfold Oper.wp;go_simp
      exact ⟨upd f 11 (.agg (yw c.id c.side c.ticks c.left c.life c.tag).toArray),by simp [upd,qp],bV (H xt) 11 _ (yi rfl) (by decide)⟩
     | 12,N =>
      obtain rfl:=yb N
      have vE:=K.c 11 (ye D 11 rfl) _ rfl
      have aP:x[13]? = some false:=zU V 17 12 13 (by kernel_rfl) hx (by simp) xq
      have k16:x[16]? = some false:=zU V 17 12 16 (by kernel_rfl) hx (by simp) xq
      clear D K V
      rw [if_pos (by rfl)];unfold Oper.wp;go_simp
      exact ⟨upd f 12 (.slice (some (U xn.heap.size 0)) 1 1),by simp [upd,vE],rdd_12 (H xt) aP k16 (fun v u hu=>by cases hu)⟩
     | 13,N =>
      obtain rfl:=yb N
      have k16:x[16]? = some false:=zU V 17 13 16 (by kernel_rfl) hx (by simp) xq
      have g4':=K.c 4 (ye D 4 rfl) _ rfl
      obtain ⟨b4,xZ,ui,xM⟩:=K.m4 (ye D 12 rfl) xq
      have vn:=K.bel xq
      have kw:=M (zM (H HOk) vn)
      have qP:Hid (∀ j u,c.vs[j]? = some u→xn.cell? (((U b4 0):Addr).add j) = some u):=fun j u hu=>by
       have:=xM j u hu
       rw [Addr.add_mid]; exact this
      clear D K V xM
      rw [if_pos (by rfl)]
      refine wp_append_own xn (.tmp 148) (.tmp 156) 32 rfl cp.heap.size 78 i0 _ 6 56 Tryz.underlying32 vA uL uM uF rfl (by decide) vm m.length (m.flatMap Od.vs) (by show f 4 = _; exact g4') (H kw) (U b4 0) 1 1 c.vs (by show f 12 = _; exact xZ) rfl (H qP) (one_od c) (by unfold maxLen; omega) (by omega) (yN kS vn.size) ?_
      intro v' w' xR vG _
      refine ⟨upd f 13 v',rfl,rdd_13 (H xt) xq k16 (fun v u hu=>by cases hu) ⟨?_,(cK vn ya).trans vG⟩⟩
      show w'.ownsRow _ _ _ _ (m ++ [c]).length _
      rw [yP,List.flatMap_append]
      simpa using xR
     | 14,N =>
      obtain rfl:=yb N
      have g0:=K.c 0 (ye D 0 rfl) _ rfl
      clear D K V
      rw [if_pos (by rfl)];unfold Oper.wp;go_simp
      exact ⟨upd f 14 (J hj 0),by simp [upd,g0],bV (H xt) 14 _ (yi rfl) (by decide)⟩
     | 15,N =>
      obtain rfl:=yb N
      have jf:=K.c 14 (ye D 14 rfl) _ rfl
      clear D K V
      rw [if_pos (by rfl)];unfold Oper.wp;go_simp
      exact ⟨upd f 15 (J hj 10),by simp [upd,jf],bV (H xt) 15 _ (yi rfl) (by decide)⟩
     | 16,N =>
      obtain rfl:=yb N
      have g15:=K.c 15 (ye D 15 rfl) _ rfl
      have aP:x[13]? = some true:=D ⟨13,.data⟩ (by simp) rfl
      obtain ⟨ho5,jc⟩:=K.m5 aP xq
      have nO:some hj ≠ vm.ownBlock:=fun e=>by have:=((H HOk).lt hj e.symm).1; have:=H HOX; omega
      have qx:=M (aS (H HMk).box (jc.block hj (H HMk).lt nO))
      have y1:=R (H qx) 10 rfl
      have q1:=zd (H qx) 10 (by show 10 < 13; decide)
      obtain ⟨ga,gc,qJ⟩:=cA (zK ho5 (by simp; omega))
      generalize (m ++ [c]).length = gn at qJ
      clear D K V ho5 jc nO
      rw [if_pos (by rfl)];unfold Oper.wp;go_simp
      refine ⟨f,by simp [g15,qJ],?_⟩
      have:=rdd_16 (H xt) aP xq (fun v u hu=>by cases hu)
      rw [qJ] at this
      exact this
     | i + 17,N=>simp at N
   ·have HP1:Hid (g.l.filter isDy = m ++ (g.l.drop (k + 1)).filter isDy):=by
     have:=H HP
     rw [List.filter_cons_of_neg (by simp [isDy,uj])] at this
     exact this
    clear HP
    go_wp2_with fail
    dsimp only [I,J,U,Z,yj,yk,yv,yw,yx]
    go_roundw
    case rel=>exact ⟨k + 1,m,vm,by omega,by go_num,HP1,by omega,HMk,HOk,HBk,kS⟩
    case measure=>simp [intOf]; omega
  ·have HE:Hid (g.l.filter isDy = m):=by
    have:=H uQ
    rw [xa (by omega)] at this
    show _ = _
    rw [this]; simp
   have hge:¬ ((k:Int) < g.l.length):=by omega
   clear uQ xI
   go_wp2_with fail
   go_end0
   refine H qm _ (.slice la g.l.length lc) vm (H HBk) ?_
   rw [H uh,(H ux).1,(H ux).2.1,(H ux).2.2,H HE]
   exact H HMk
theorem take_any {hj B:Nat} {vl vd va:Value} {g:Gr} {t:Od} {kd n0:Int} {dy l0:List Od} (e:Ev) (w:World) (h:MS hj B w vl vd va g t kd n0 dy l0) (hi:GI g) (hm:MR g t kd dy) (he:okE e = true) (hr:zD g e = 0):Calls Tryz.prog 52 #[J hj 0,evV e] w fun x w'=>TakE hj B va n0 l0 g t kd dy e w x w':=by
 have hk:=cY he
 obtain ⟨xm,⟨ck,L,ct,F,cq,ci,X,cg⟩,id,xi,qty,xj,xh⟩:=e
 simp only at hk
 rcases (by omega:xm = 1 ∨ xm = 2 ∨ xm = 3 ∨ xm = 4 ∨ xm = 5 ∨ xm = 6 ∨ xm = 7 ∨ xm = 8 ∨ xm = 9) with rfl | rfl | rfl | rfl | rfl | rfl | rfl | rfl | rfl
 ·exact take_1 ck L ct F cq ci X cg id xi qty xj xh w h hi hm he hr
 ·exact take_2 ck L ct F cq ci X cg id xi qty xj xh w h hi hm he hr
 ·exact take_3 ck L ct F cq ci X cg id xi qty xj xh w h hi hm he hr
 ·exact take_4 ck L ct F cq ci X cg id xi qty xj xh w h hi hm he hr
 ·exact take_5 ck L ct F cq ci X cg id xi qty xj xh w h hi hm he hr
 ·exact take_6 ck L ct F cq ci X cg id xi qty xj xh w h hi hm he hr
 ·exact take_7 ck L ct F cq ci X cg id xi qty xj xh w h hi hm he hr
 ·exact take_8 ck L ct F cq ci X cg id xi qty xj xh w h hi hm he hr
 ·exact take_9 ck L ct F cq ci X cg id xi qty xj xh w h hi hm he hr
structure RB (C:Nat→Value→Prop) (B0:World) (cs:List Od) (mk:Value→List Value) (x:List Bool) (f:Nat→Value) (W:World):Prop where
 c:∀ j,x[j]? = some true→C j (f j)
 bel:Below B0.heap.size B0 W
 m2:x[2]? = some true→x[5]? = some false→ORow W B0.heap.size (f 2) []
 m5:x[5]? = some true→ORow W B0.heap.size (f 5) cs
 m7:x[7]? = some true→f 7 = .agg (mk (f 5)).toArray
 m8:x[8]? = some true→∃ hj,f 8 = .pointer (some ⟨hj,0,none⟩)∧B0.heap.size ≤ hj∧hj < W.heap.size∧Bx W hj (mk (f 5))∧∃ cur,W.heap[hj]? = some (.cells cur 80 (0,0))
 m9:x[9]? = some true→f 9 = f 8
def RBA (cl:(Nat→Value)→Act) (C:Nat→Value→Prop) (B0:World) (cs:List Od) (mk:Value→List Value) (x:List Bool) (fG:Act) (W:World):Prop:=∃ f,fG = cl f∧RB C B0 cs mk x f W
section
variable {C:Nat→Value→Prop} {B0 W W':World} {cs:List Od} {mk:Value→List Value} {x:List Bool} {f:Nat→Value}
theorem rb_val (h:RB C B0 cs mk x f W) (i:Nat) (v:Value) (hv:C i v) (hi:i ≠ 2∧i ≠ 5∧i ≠ 7∧i ≠ 8∧i ≠ 9):RB C B0 cs mk (x.set i true) (upd f i v) W:=by
 obtain ⟨E,h5,h7,h8,h9⟩:=hi
 refine ⟨zB h.c hv,h.bel,?_,?_,?_,?_,?_⟩ <;> simp only [gq E,gq h5,gq h7,gq h8,gq h9,zl f v E.symm,zl f v h5.symm,zl f v h7.symm,zl f v h8.symm,zl f v h9.symm]
 ·exact h.m2
 ·exact h.m5
 ·exact h.m7
 ·exact h.m8
 ·exact h.m9
theorem rb_2 (h:RB C B0 cs mk x f W) (n5:x[5]? = some false) (n8:x[8]? = some false) (n7:x[7]? = some false) (n9:x[9]? = some false) (hc:∀ v,C 2 v):RB C B0 cs mk (x.set 2 true) (upd f 2 (.slice (some (U W.heap.size 0)) 0 0)) (W.alloc (A #[] 78)) :=
 ⟨zB h.c (hc _),h.bel.alloc h.bel.size _,fun _ _=>(by rw [zr]; exact World.ownsRow_made W #[] 0 h.bel.size (by decide) rfl),fun e=>(by rw [gq (by decide),n5] at e; cases e),fun e=>(by rw [gq (by decide),n7] at e; cases e),fun e=>(by rw [gq (by decide),n8] at e; cases e),fun e=>(by rw [gq (by decide),n9] at e; cases e)⟩
theorem rb_5 (h:RB C B0 cs mk x f W) (E:x[2]? = some true) (n5:x[5]? = some false) (n7:x[7]? = some false) (n8:x[8]? = some false) (n9:x[9]? = some false) (hc:∀ v,C 5 v) {v':Value} (N:ORow W' B0.heap.size v' cs) (hg:W.grownBy W' (f 2).ownBlock):RB C B0 cs mk (x.set 5 true) (upd f 5 v') W' :=
 ⟨zB h.c (hc _),h.bel.grown hg h.bel.size (fun k hk=>((h.m2 E n5).lt k hk).1),fun _ e=>(by rw [gqs n5] at e; cases e),fun _=>(by rw [zr]; exact N),fun e=>(by rw [gq (by decide),n7] at e; cases e),fun e=>(by rw [gq (by decide),n8] at e; cases e),fun e=>(by rw [gq (by decide),n9] at e; cases e)⟩
theorem rb_7 (h:RB C B0 cs mk x f W) (n8:x[8]? = some false) (n9:x[9]? = some false) (hc:∀ v,C 7 v):RB C B0 cs mk (x.set 7 true) (upd f 7 (.agg (mk (f 5)).toArray)) W:=by
 refine ⟨zB h.c (hc _),h.bel,?_,?_,fun _=>?_,fun e=>?_,fun e=>?_⟩
 ·rw [gq (by decide),gq (by decide),zl _ _ (by decide)]; exact h.m2
 ·rw [gq (by decide),zl _ _ (by decide)]; exact h.m5
 ·rw [zr,zl _ _ (by decide)]
 ·rw [gq (by decide),n8] at e; cases e
 ·rw [gq (by decide),n9] at e; cases e
theorem rb_8 (h:RB C B0 cs mk x f W) (h5:x[5]? = some true) (h7:x[7]? = some true) (n9:x[9]? = some false) (hc:∀ v,C 8 v):RB C B0 cs mk (x.set 8 true) (upd f 8 (J W.heap.size 0)) (W.alloc (A (mk (f 5)).toArray 80)):=by
 have Y:=fE W (A (mk (f 5)).toArray 80)
 refine ⟨zB h.c (hc _),h.bel.alloc h.bel.size _,fun _ e=>?_,fun _=>?_,fun _=>?_,fun _=>⟨W.heap.size,zr _ _ _,h.bel.size,by simp,?_,?_⟩,fun e=>?_⟩
 ·rw [gq (by decide),h5] at e; cases e
 ·rw [zl _ _ (by decide)]; exact zM (h.m5 h5) Y
 ·rw [zl _ _ (by decide),zl _ _ (by decide)]; exact h.m7 h7
 ·rw [zl _ _ (by decide)]; exact zq W (mk (f 5)) 80
 ·exact ⟨_,heap_alloc_new W _⟩
 ·rw [gq (by decide),n9] at e; cases e
theorem rb_9 (h:RB C B0 cs mk x f W) (hc:∀ v,C 9 v):RB C B0 cs mk (x.set 9 true) (upd f 9 (f 8)) W:=by
 refine ⟨zB h.c (hc _),h.bel,?_,?_,?_,?_,fun _=>?_⟩
 ·rw [gq (by decide),gq (by decide),zl _ _ (by decide)]; exact h.m2
 ·rw [gq (by decide),zl _ _ (by decide)]; exact h.m5
 ·rw [gq (by decide),zl _ _ (by decide),zl _ _ (by decide)]; exact h.m7
 ·rw [gq (by decide),zl _ _ (by decide),zl _ _ (by decide)]; exact h.m8
 ·rw [zr,zl _ _ (by decide)]
end
theorem l05Begin_any (next:Int) (vb:Value) (l:List Od) (w:World) (hr:RdR Od.vs 6 w vb l) (hs:SlOk vb) (hn:l.length ≤ 1000) :
  Calls Tryz.prog 51 #[.agg #[I next,vb]] w fun x w'=>∃ hj vl,x = .returned (J hj 0)∧MS hj w.heap.size w' vl (.slice none 0 0) vb (gr0 next l) zOd 0 next [] l∧yn w w':=by
 obtain ⟨i0,vA,uL,uM,uF⟩:=info_parts Tryz.infoOrder
 obtain ⟨a,cap,rfl,xA,hc⟩:=id hr
 have HNA:Hid (l ≠ []→∀ b off n c,Value.slice a l.length cap = .slice (some (U b off)) n c→b < w.heap.size):=fun xD b off n c e=>by
  obtain ⟨b2,o2,e2,Y,-⟩:=hc xD
  simp only [Value.slice.injEq] at e
  rw [e.1] at e2
  simp only [Option.some.injEq,Addr.mk.injEq,and_true] at e2
  rw [e2.1]; exact Y
 obtain ⟨xz,HX⟩:=fJ w [I next,.slice a l.length cap] 34
 have HB:=M xz
 have uR:=M (zh hr xz ya)
 have km:=M hs
 clear hr hs hc xz
 go_enter Tryz.func51,Tryz.ntmps51
 refine fI fun hR HK=>?_
 go_wp2_with fail
 refine H HK _ _ ?_
 clear HK
 generalize (w.alloc (A #[I next,.slice a l.length cap] 34)) = cp at HB HX uR ⊢
 have hSX:w.heap.size < cp.heap.size:=yK _ _ (R (H HX) 0 rfl)
 go_wp2_with fail
 refine zk (RBA (fun f=>{ tmps:=#[.agg #[I next,.slice a l.length cap],J w.heap.size 0,f 9,f 0,f 1,f 2,f 3,f 4,f 5,f 6,f 7,f 8],defers:=[] }) (fun j v=>∀ u,([some (J w.heap.size 0),some (I next),none,some (J w.heap.size 1),some (.slice a l.length cap),none,some (.agg #[I next,.slice a l.length cap]),none,none,none]:List (Option Value))[j]? = some (some u)→v = u) cp l (fun v=>msV v (.slice none 0 0) (.slice a l.length cap) (gr0 next l) zOd 0 next)) (by kernel_rfl) ?_ ?_ ?_
 ·have vL:∀ j,(List.replicate 10 false)[j]? = some true→False:=fun j O=>by rw [yI] at O; split at O <;> simp at O
  exact ⟨fun j=>if j = 9 then .pointer none else Z,rfl,⟨fun j O=>(vL j O).elim,⟨rfl,rfl,rfl,Nat.le_refl _,fun _ _=>rfl⟩,fun h=>(vL _ h).elim,fun h=>(vL _ h).elim,fun h=>(vL _ h).elim,fun h=>(vL _ h).elim,fun h=>(vL _ h).elim⟩⟩
 ·rintro x fG hb ⟨f,rfl,K⟩ hx xN
  have xo:=zN xN hx (acyc _ (by kernel_rfl))
  obtain ⟨hj,e8,hO,hOY,kD,hty⟩:=K.m8 (xo 8 (by simp))
  have e9:=(K.m9 (xo 9 (by simp))).trans e8
  have HMS:Hid (MS hj w.heap.size hb (f 5) (.slice none 0 0) (.slice a l.length cap) (gr0 next l) zOd 0 next [] l):=⟨kD,zS (K.m5 (xo 5 (by simp))) (H HB).size,⟨none,0,rfl,by decide,fun h=>absurd rfl h⟩,zh (H uR) K.bel ya,H km,hty,yN (H HB).size hO,fun _=>⟨rfl,rfl,rfl⟩,fun h=>absurd rfl h,H HNA⟩
  have HBY:=M ((H HB).trans (K.bel.mono (H HB).size))
  dsimp only
  rw [e9]
  clear K xo xN hx e8 e9 kD hty hO hOY
  generalize f 0 = v0,f 1 = v1,f 2 = v2,f 3 = v3,f 4 = v4
  generalize f 5 = v5 at *
  generalize f 6 = v6,f 7 = v7,f 8 = v8
  go_wp2_with fail
  go_ret
  exact ⟨hj,v5,rfl,H HMS,H HBY⟩
 ·rintro x fG xn i op ⟨f,rfl,K⟩ V hx N xq D
  have xt:=M K
  have vn:=K.bel
  match i,N with
  | 0,N =>
   obtain rfl:=yb N
   clear D K V
   rw [if_pos (by rfl)];unfold Oper.wp;go_simp
   exact ⟨upd f 0 (J w.heap.size 0),by simp [upd],rb_val (H xt) 0 _ (yi rfl) (by decide)⟩
  | 1,N =>
   obtain rfl:=yb N
   have g0:=K.c 0 (ye D 0 rfl) _ rfl
   have z0:=R (zg (H HX) vn hSX) 0 rfl
   clear D K V
   rw [if_pos (by rfl)];unfold Oper.wp;go_simp
   exact ⟨upd f 1 (I next),by simp [upd,g0],rb_val (H xt) 1 _ (yi rfl) (by decide)⟩
  | 2,N =>
   obtain rfl:=yb N
   have n5:x[5]? = some false:=zU V 10 2 5 (by kernel_rfl) hx (by simp) xq
   have n7:x[7]? = some false:=zU V 10 2 7 (by kernel_rfl) hx (by simp) xq
   have n8:x[8]? = some false:=zU V 10 2 8 (by kernel_rfl) hx (by simp) xq
   have n9:x[9]? = some false:=zU V 10 2 9 (by kernel_rfl) hx (by simp) xq
   clear D K V
   rw [if_pos (by rfl)];unfold Oper.wp;go_simp
   exact ⟨upd f 2 (.slice (some (U xn.heap.size 0)) 0 0),by simp [upd],rb_2 (H xt) n5 n8 n7 n9 (fun v u hu=>by cases hu)⟩
  | 3,N =>
   obtain rfl:=yb N
   clear D K V
   rw [if_pos (by rfl)];unfold Oper.wp;go_simp
   exact ⟨upd f 3 (J w.heap.size 1),by simp [upd],rb_val (H xt) 3 _ (yi rfl) (by decide)⟩
  | 4,N =>
   obtain rfl:=yb N
   have g3:=K.c 3 (ye D 3 rfl) _ rfl
   have z1:=R (zg (H HX) vn hSX) 1 rfl
   clear D K V
   rw [if_pos (by rfl)];unfold Oper.wp;go_simp
   exact ⟨upd f 4 (.slice a l.length cap),by simp [upd,g3],rb_val (H xt) 4 _ (yi rfl) (by decide)⟩
  | 5,N =>
   obtain rfl:=yb N
   have n7:x[7]? = some false:=zU V 10 5 7 (by kernel_rfl) hx (by simp) xq
   have n8:x[8]? = some false:=zU V 10 5 8 (by kernel_rfl) hx (by simp) xq
   have n9:x[9]? = some false:=zU V 10 5 9 (by kernel_rfl) hx (by simp) xq
   have k2:x[2]? = some true:=D ⟨2,.data⟩ (by simp) rfl
   have g4:=K.c 4 (ye D 4 rfl) _ rfl
   have HO0:=M (K.m2 k2 xq)
   have HRDV:Hid (∀ ad,a = some ad→∀ j u,(l.flatMap Od.vs)[j]? = some u→xn.cell? (ad.add j) = some u):=fun ad had=>by
    have h:=zh (H uR) vn ya
    rw [had] at h
    exact rd_src h
   clear D K V
   rw [if_pos (by rfl)]
   rcases H km with h | ⟨ad,nn,cc,h⟩
   ·simp only [Value.slice.injEq] at h
    have hL:l = []:=List.length_eq_zero_iff.1 h.2.1
    refine eZ (.tmp 5) (.tmp 7) 32 rfl cp.heap.size 78 i0 6 Tryz.underlying32 vA (f 2) 0 [] rfl (H HO0) (by show f 4 = _; rw [g4,h.1,h.2.1,h.2.2]) ?_
    exact ⟨upd f 5 (f 2),rfl,rb_5 (H xt) k2 xq n7 n8 n9 (fun v u hu=>by cases hu) (by rw [hL]; exact H HO0) (yR _ _)⟩
   ·simp only [Value.slice.injEq] at h
    refine wp_append_own xn (.tmp 5) (.tmp 7) 32 rfl cp.heap.size 78 i0 _ 6 56 Tryz.underlying32 vA uL uM uF rfl (by decide) (f 2) 0 [] rfl (H HO0) ad l.length cap (l.flatMap Od.vs) (by show f 4 = _; rw [g4,h.1]) (by rw [zZ Od.len]) (H HRDV ad h.1) (cz l) (by unfold maxLen; omega) (by omega) vn.size ?_
    intro v' w' xR vG _
    refine ⟨upd f 5 v',rfl,rb_5 (H xt) k2 xq n7 n8 n9 (fun v u hu=>by cases hu) ?_ vG⟩
    show w'.ownsRow _ _ _ _ l.length _
    simpa using xR
  | 6,N =>
   obtain rfl:=yb N
   have z0:=R (zg (H HX) vn hSX) 0 rfl
   have z1:=R (zg (H HX) vn hSX) 1 rfl
   clear D K V
   rw [if_pos (by rfl)];unfold Oper.wp;go_simp
   exact ⟨upd f 6 (.agg #[I next,.slice a l.length cap]),by simp [upd],rb_val (H xt) 6 _ (yi rfl) (by decide)⟩
  | 7,N =>
   obtain rfl:=yb N
   have g1:=K.c 1 (ye D 1 rfl) _ rfl
   have g6:=K.c 6 (ye D 6 rfl) _ rfl
   have n8:x[8]? = some false:=zU V 10 7 8 (by kernel_rfl) hx (by simp) xq
   have n9:x[9]? = some false:=zU V 10 7 9 (by kernel_rfl) hx (by simp) xq
   obtain ⟨ga,gc,g5⟩:=cA (zK (K.m5 (ye D 5 rfl)) (by omega))
   have ql:=M (rb_7 (H xt) n8 n9 (fun v u hu=>by cases hu))
   rw [g5] at ql
   unfold msV at ql
   clear D K V
   rw [if_pos (by rfl)];unfold Oper.wp;go_simp
   exact ⟨_,by simp [upd,g1,g5,g6]; exact ⟨rfl,rfl,rfl,rfl,rfl,rfl,rfl,rfl⟩,H ql⟩
  | 8,N =>
   obtain rfl:=yb N
   have n9:x[9]? = some false:=zU V 10 8 9 (by kernel_rfl) hx (by simp) xq
   have k7:x[7]? = some true:=D ⟨7,.data⟩ (by simp) rfl
   have k5:x[5]? = some true:=yf V 7 rfl k7 5 rfl
   have g7:=K.m7 k7
   have ql:=M (rb_8 (H xt) k5 k7 n9 (fun v u hu=>by cases hu))
   simp only [msV,gr0] at g7 ql
   clear D K V
   rw [if_pos (by rfl)];unfold Oper.wp;go_simp
   exact ⟨upd f 8 (J xn.heap.size 0),by simp [upd,g7],H ql⟩
  | 9,N =>
   obtain rfl:=yb N
   clear D K V
   rw [if_pos (by rfl)];unfold Oper.wp;go_simp
   exact ⟨upd f 9 (f 8),by simp [upd],rb_9 (H xt) (fun v u hu=>by cases hu)⟩
  | i + 10,N=>simp at N
end Go.Proofs.YtnphbkgfjanmgaaGreatDoor
