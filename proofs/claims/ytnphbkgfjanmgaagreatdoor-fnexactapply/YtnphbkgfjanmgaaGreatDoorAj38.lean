/-
  A day's end done, by the model: proved by walking the method.
-/
import Derived.Test.YtnphbkgfjanmgaaGreatDoorAj37
set_option linter.unusedVariables false
set_option maxHeartbeats 6400000
set_option maxRecDepth 100000
namespace Go.Proofs.YtnphbkgfjanmgaaGreatDoor
open Go.RowKit
theorem drop_getR {l:List Od} {k:Nat} {c:Od} (h:l[k]? = some c):l.drop k = c :: l.drop (k + 1):=by
 obtain ⟨N,rfl⟩:=yH.1 h
 exact xd N
theorem oRow_gr {W W':World} {B:Nat} {v:Value} {l:List Od} {G:Option Nat} (h:ORow W B v l) (hg:W.grownBy W' G) (hn:∀ k,v.ownBlock = some k→some k ≠ G):ORow W' B v l:=by
 rcases h.2 with ⟨e,n⟩ | ⟨g,cap,xF,rfl,Q,hh,r⟩
 ·exact ⟨h.1,.inl ⟨e,n⟩⟩
 ·exact ⟨h.1,.inr ⟨g,cap,xF,rfl,Q,(hg.block g (yZ.1 hh).1 (hn g rfl)).trans hh,r⟩⟩
theorem rd_grO {W W':World} {l:List Od} {v:Value} {G:Option Nat} (h:RdR Od.vs 6 W v l) (hg:W.grownBy W' G) (hn:l ≠ []→∀ b' off n c,v = .slice (some (D b' off)) n c→some b' ≠ G):RdR Od.vs 6 W' v l:=by
 obtain ⟨a,cap,rfl,hl,hc⟩:=h
 refine ⟨a,cap,rfl,hl,fun xA=>?_⟩
 obtain ⟨b',off,rfl,Q,F⟩:=hc xA
 have kq:=hg.block b' Q (hn xA b' off _ _ rfl)
 refine ⟨b',off,rfl,yK Q hg.size,fun j c X i u hi=>?_⟩
 rw [yR (a:=(D b' (off + j * 6 + i))) kq]
 exact F j c X i u hi
theorem ms_dayrow {cp B ho:Nat} {h2 W:World} {vl vm va v':Value} {g:Gr} {t:Od} {kd n0:Int} {m m' l0:List Od} (h:MS cp B h2 vl vm va g t kd n0 m l0) (hg:h2.grownBy W vm.ownBlock) (hZ:∀ k,vm.ownBlock = some k→ho ≤ k) (hOZ:cp < ho) (hLZ:∀ k,vl.ownBlock = some k→k < ho) (Z:ORow W ho v' m') (hq:g.bg ≠ 0) (hl:m'.length ≤ 1073741824):MS cp B (W.setCell (D cp 10) v') vl v' va g t kd n0 m' l0:=by
 have hOB:=h.hO
 have nO:some cp ≠ vm.ownBlock:=fun e=>by have:=hZ cp e.symm; omega
 have hd:m' ≠ []→∀ b off n c,v' = .slice (some (D b off)) n c→b ≠ cp∧n ≤ c:=fun xA b off n c e=>by
  obtain ⟨g',cap,e',hc,hB,-⟩:=du Z xA
  rw [e'] at e
  simp only [Value.slice.injEq,Option.some.injEq,Addr.mk.injEq,and_true] at e
  obtain ⟨⟨rfl,-⟩,rfl,rfl⟩:=e
  exact ⟨by omega,hc⟩
 obtain ⟨xF,hty⟩:=h.typ
 refine ⟨bH (bx h.box (hg.block cp h.lt nO)) (by show 10 < 13; decide),dR h.nl [v'] 10 W (oRow_gr h.row hg (fun k hk e=>by have:=hZ k e.symm; have:=hLZ k hk; omega)),dQ (us:=[v']) (o:=10) (zI Z hl) (fun xA b off n c e=>(hd xA b off n c e).1),dQ (us:=[v']) (o:=10) (rd_grO h.ahd hg (fun xA b' off n c e e2=>by have:=h.na xA b' off n c e; have:=hZ b' e2.symm; omega)) (fun xA b' off n c e=>by have:=h.na xA b' off n c e; omega),h.sla,eB [v'] 10 W ⟨xF,(hg.block cp h.lt nO).trans hty⟩,h.hO,fun e=>absurd e hq,hd,h.na⟩
structure RD (C:Nat→Value→Prop) (cp:Nat) (gs:World→Value→Prop) (B0:World) (c0:Od) (x:List Bool) (f:Nat→Value) (W:World):Prop where
 c:∀ j,x[j]? = some true→C j (f j)
 bel:x[13]? = some false→Below B0.heap.size B0 W
 m4:x[12]? = some true→x[13]? = some false→∃ b,f 12 = .slice (some ⟨b,0,none⟩) 1 1∧b < W.heap.size∧W.rangeAt b 0 c0.vs
 m5:x[13]? = some true→x[16]? = some false→gs W (f 13)
 z:x[16]? = some true→∃ W0,gs W0 (f 13)∧W = W0.setCell ⟨cp,10,none⟩ (f 13)
def RDA (xo:(Nat→Value)→Act) (C:Nat→Value→Prop) (cp:Nat) (gs:World→Value→Prop) (B0:World) (c0:Od) (x:List Bool) (a:Act) (W:World):Prop:=∃ f,a = xo f∧RD C cp gs B0 c0 x f W
section
variable {C:Nat→Value→Prop} {cp:Nat} {gs:World→Value→Prop} {B0 W W':World} {c0:Od} {x:List Bool} {f:Nat→Value}
theorem cJ (h:RD C cp gs B0 c0 x f W) (i:Nat) (v:Value) (hv:C i v) (hi:i ≠ 12∧i ≠ 13∧i ≠ 16):RD C cp gs B0 c0 (x.set i true) (upd f i v) W:=by
 obtain ⟨Y,h3,h6⟩:=hi
 refine ⟨zD h.c hv,?_,?_,?_,?_⟩ <;> simp only [gq Y,gq h3,gq h6,zk f v Y.symm,zk f v h3.symm]
 ·exact h.bel
 ·exact h.m4
 ·exact h.m5
 ·exact h.z
theorem rdd_12 (h:RD C cp gs B0 c0 x f W) (n:x[13]? = some false) (n6:x[16]? = some false) (hc:∀ v,C 12 v):RD C cp gs B0 c0 (x.set 12 true) (upd f 12 (.slice (some (D W.heap.size 0)) 1 1)) (W.alloc (Obj.cells c0.vs.toArray 78)) :=
 ⟨zD h.c (hc _),fun _=>(h.bel n).alloc (h.bel n).size _,fun _ _=>⟨W.heap.size,zt _ _ _,by rw [zj]; omega,zo W c0.vs _⟩,fun e=>(by rw [gq (by decide),n] at e; cases e),fun e=>by rw [gq (by decide),n6] at e; cases e⟩
theorem rdd_13 (h:RD C cp gs B0 c0 x f W) (n:x[13]? = some false) (n6:x[16]? = some false) (hc:∀ v,C 13 v) {v':Value} (ha:gs W' v'):RD C cp gs B0 c0 (x.set 13 true) (upd f 13 v') W' :=
 ⟨zD h.c (hc _),fun e=>(by rw [gqs n] at e; cases e),fun _ e=>(by rw [gqs n] at e; cases e),fun _ _=>(by rw [zt]; exact ha),fun e=>by rw [gq (by decide),n6] at e; cases e⟩
theorem rdd_16 (h:RD C cp gs B0 c0 x f W) (h3:x[13]? = some true) (n6:x[16]? = some false) (hc:∀ v,C 16 v):RD C cp gs B0 c0 (x.set 16 true) f (W.setCell (D cp 10) (f 13)):=by
 refine ⟨fun j X=>?_,fun e=>?_,fun _ e=>?_,fun _ e=>?_,fun _=>⟨W,h.m5 h3 n6,rfl⟩⟩
 ·by_cases hjm:j = 16
  ·subst hjm; exact hc _
  ·rw [gq (fun e=>hjm e.symm)] at X; exact h.c j X
 ·rw [gq (by decide),h3] at e; cases e
 ·rw [gq (by decide),h3] at e; cases e
 ·rw [gqs n6] at e; cases e
end
theorem take_8 {cp B:Nat} {vl vd va:Value} {g:Gr} {t:Od} {kd n0:Int} {dy l0:List Od} (ck L ct V cq ci:Int) (O:Nat) (cg:ByteArray) (id xj qty xk xi:Int) (w:World) (h:MS cp B w vl vd va g t kd n0 dy l0) (hi:GI g) (hm:MR g t kd dy) (he:okE ⟨8,⟨ck,L,ct,V,cq,ci,O,cg⟩,id,xj,qty,xk,xi⟩ = true) (hr:zG g ⟨8,⟨ck,L,ct,V,cq,ci,O,cg⟩,id,xj,qty,xk,xi⟩ = 0):Calls Tryz.prog 52 #[J cp 0,.agg (yw 8 ck L ct V cq ci O cg id xj qty xk xi).toArray] w fun x w'=>TakE cp B va n0 l0 g t kd dy ⟨8,⟨ck,L,ct,V,cq,ci,O,cg⟩,id,xj,qty,xk,xi⟩ w x w':=by
 have hsf:=sfl
 have hO:=h.lt
 have qe:=h.base
 have qM:Hid (∀ w' vY vk,Below B w w'→MS cp B w' vY vk va (br g ⟨8,⟨ck,L,ct,V,cq,ci,O,cg⟩,id,xj,qty,xk,xi⟩) (tkM g t ⟨8,⟨ck,L,ct,V,cq,ci,O,cg⟩,id,xj,qty,xk,xi⟩) (kdM kd ⟨8,⟨ck,L,ct,V,cq,ci,O,cg⟩,id,xj,qty,xk,xi⟩) n0 (dyM g dy ⟨8,⟨ck,L,ct,V,cq,ci,O,cg⟩,id,xj,qty,xk,xi⟩) l0→TakE cp B va n0 l0 g t kd dy ⟨8,⟨ck,L,ct,V,cq,ci,O,cg⟩,id,xj,qty,xk,xi⟩ w (.returned (.tuple #[])) w'):=fun w' vY vk N Y=>⟨rfl,N,vY,vk,Y⟩
 have h0:=rule8 (e:=⟨8,⟨ck,L,ct,V,cq,ci,O,cg⟩,id,xj,qty,xk,xi⟩) rfl hr
 have uh:Hid (br g ⟨8,⟨ck,L,ct,V,cq,ci,O,cg⟩,id,xj,qty,xk,xi⟩ = { g with bg:=8 }):=by show _ = _; rw [step8 rfl]; simp only [begG,if_pos h0]
 have uz:Hid (tkM g t ⟨8,⟨ck,L,ct,V,cq,ci,O,cg⟩,id,xj,qty,xk,xi⟩ = t∧kdM kd ⟨8,⟨ck,L,ct,V,cq,ci,O,cg⟩,id,xj,qty,xk,xi⟩ = kd∧dyM g dy ⟨8,⟨ck,L,ct,V,cq,ci,O,cg⟩,id,xj,qty,xk,xi⟩ = g.l.filter isDy):=⟨rfl,rfl,rfl⟩
 have hdy:dy = []:=by rw [hm.dy,if_neg (by omega)]
 have hvd:=(h.eqd h0).2.2
 subst hdy
 subst hvd
 have jt:=hi.len
 obtain ⟨la,lc,rfl⟩:=cA (zI h.row (yO jt (by decide)))
 obtain ⟨i0,vC,uK,uL,uZ⟩:=info_parts Tryz.infoOrder
 clear h0
 generalize TakE cp B va n0 l0 g t kd [] ⟨8,⟨ck,L,ct,V,cq,ci,O,cg⟩,id,xj,qty,xk,xi⟩ w = C at qM ⊢
 obtain ⟨xC,HX⟩:=gw w (yw 8 ck L ct V cq ci O cg id xj qty xk xi) 52
 have HM:=H (zx h xC)
 have HB:=H (xC.mono qe)
 clear h xC hi hm he hr
 go_enter Tryz.func52,Tryz.ntmps52
 refine gv fun hR HK=>?_
 go_wp2_with fail
 refine U HK _ _ ?_
 clear HK
 generalize (w.alloc (A (yw 8 ck L ct V cq ci O cg id xj qty xk xi).toArray 52)) = W1 at HX HM HB ⊢
 have c9:=R (U HM).box 9 rfl
 have q9:=zd (U HM).box 9 (by show 9 < 13; decide)
 have xw:Hid (Below B w (World.setCells W1 cp 9 [.bool true])):=zN (U HB) yb (U HM) 9 _
 have xR:Hid (MS cp B (World.setCells W1 cp 9 [.bool true]) (.slice la g.l.length lc) (.slice none 0 0) va { g with bg:=8 } t kd n0 [] l0):=cE (U HM) 9 [.bool true] (by simp) rfl rfl (fun h=>absurd (show (8:Int) = 0 from h) (by decide))
 have e0:(World.setCells W1 cp 9 [.bool true]).cell? (D w.heap.size 0) = some (I 8):=R (bx (U HX) (bY cp w.heap.size (by omega) _ 9 W1)) 0 rfl
 clear HX HM HB
 refine gv fun hR HK=>?_
 go_wp2_with fail
 refine U HK _ _ ?_
 clear HK
 change Code.wp _ _ _ _ (World.setCells W1 cp 9 [.bool true])
 generalize World.setCells W1 cp 9 [.bool true] = hj at xw xR e0 ⊢
 have HZ:Hid (∀ b,(.slice la g.l.length lc:Value).ownBlock = some b→b < hj.heap.size):=fun b Q=>((U xR).row.lt b Q).2
 have HOX:Hid (cp < hj.heap.size):=(U xR).lt
 clear c9 q9
 go_wp2_with fail
 go_loopw [4] (fun iv wr=>∃ (k:Nat) (m:List Od) (vm:Value),k ≤ g.l.length∧iv = I k∧Hid (g.l.filter isDy = m ++ (g.l.drop k).filter isDy)∧m.length ≤ k∧Hid (MS cp B wr (.slice la g.l.length lc) vm va { g with bg:=8 } t kd n0 m l0)∧Hid (ORow wr hj.heap.size vm m)∧Hid (Below B w wr)∧hj.heap.size ≤ wr.heap.size) (fun iv _=>g.l.length - (intOf iv).toNat)
 case atStart=>exact ⟨0,[],_,Nat.zero_le _,rfl,rfl,Nat.le_refl _,xR,World.ownsRow_nil _ _ _ _,xw,Nat.le_refl _⟩
 case round =>
  obtain ⟨k,m,vm,hk,rfl,uP,kW,HMk,HOk,HBk,kB⟩:=hrel
  clear xR xw e0
  have c1:=R (U HMk).box 1 rfl
  by_cases xI:k < g.l.length
  ·obtain ⟨c,uu⟩:∃ c,g.l[k]? = some c:=⟨_,yI xI⟩
   have HP:Hid (g.l.filter isDy = m ++ (c :: g.l.drop (k + 1)).filter isDy):=by
    have:=U uP
    rw [drop_getR uu] at this
    exact this
   obtain ⟨b,rfl,Q,F⟩:∃ b,la = some (D b 0)∧b < wr.heap.size∧wr.rangeAt b (k * 6) c.vs:=by
    obtain ⟨a9,c9,e9,-,aY⟩:=zI (U HMk).row (yO jt (by decide))
    obtain ⟨b9,o9,uR,oX,hcl9⟩:=aY (by intro h; rw [h] at uu; simp at uu)
    obtain ⟨g9,p9,uA,-,-,-⟩:=du (U HMk).row (by intro h; rw [h] at uu; simp at uu)
    simp only [Value.slice.injEq,true_and] at e9 uA
    rw [e9.1,uR] at uA
    simp only [Option.some.injEq,Addr.mk.injEq,and_true] at uA
    obtain ⟨⟨rfl,rfl⟩,-⟩:=uA
    exact ⟨b9,e9.1.trans uR,oX,fun i u hi=>by have:=hcl9 k c uu i u hi; rw [Nat.zero_add] at this; exact this⟩
   obtain ⟨g0,g1,g2,g3,g4,g5⟩:=zB F
   have uF:(k:Int) < g.l.length:=by omega
   clear uu uP
   by_cases uj:c.life = 1
   ·rw [uj] at g4
    have HP1:Hid (g.l.filter isDy = (m ++ [c]) ++ (g.l.drop (k + 1)).filter isDy):=by
     have:=U HP
     rw [List.filter_cons_of_pos (by simp [isDy,uj])] at this
     show _ = _
     rw [this]; simp
    have HC0:Hid (wr.rangeAt b (k * 6) c.vs):=F
    clear HP F uj
    go_wp2_with fail
    refine zn (RDA (fun f=>{ tmps:=#[J cp 0,.agg (yw 8 ck L ct V cq ci O cg id xj qty xk xi).toArray,M,J w.heap.size 0,I k,J cp 0,J cp 0,J cp 9,J w.heap.size 0,I 8,.bool false,.bool false,M,M,M,M,M,M,M,M,M,M,M,M,M,M,M,M,M,M,M,M,M,M,M,.bool false,.bool false,M,M,M,M,M,M,M,M,M,M,M,M,M,M,M,M,M,M,M,M,M,M,M,M,M,M,.bool false,.bool false,M,M,M,M,M,M,M,M,M,M,M,M,M,M,M,M,M,M,M,.bool false,.bool false,M,M,M,M,.bool false,.bool false,M,M,M,M,M,M,M,M,M,M,M,M,M,M,M,.bool false,.bool false,M,M,M,M,M,M,M,M,M,M,M,M,M,M,M,.bool true,.bool true,I k,J cp 0,J cp 0,J cp 1,.slice (some (D b 0)) g.l.length lc,I g.l.length,.bool true,u133,u134,J cp 0,J cp 0,J cp 1,.slice (some (D b 0)) g.l.length lc,I k,J b (k * 6),J b (k * 6 + 4),I 1,.bool true,f 0,f 1,f 2,f 3,f 4,f 5,f 6,f 7,f 8,f 9,f 10,f 11,f 12,f 13,f 14,f 15,M,M,M,M,M,M,M,M,M,M,M,M,M,M,M,M,M,M,M,M,M,M,M,M,M],defers:=[] }) (fun j v=>∀ u,([some (J cp 0),some (J cp 0),some (J cp 0),some (J cp 10),some (vm),some (J cp 0),some (J cp 0),some (J cp 1),some (.slice (some (D b 0)) g.l.length lc),some (I k),some (J b (k * 6)),some (.agg (yx c.id c.side c.ticks c.left c.life c.tag).toArray),none,none,some (J cp 0),some (J cp 10),none]:List (Option Value))[j]? = some (some u)→v = u) cp (fun W v=>ORow W hj.heap.size v (m ++ [c])∧wr.grownBy W vm.ownBlock) wr c) (by kernel_rfl) ?_ ?_ ?_
    ·have vN:∀ j,(List.replicate 17 false)[j]? = some true→False:=fun j X=>by rw [yJ] at X; split at X <;> simp at X
     exact ⟨fun j=>[u144,u145,u146,u147,u148,u149,u150,u151,u152,u153,u154,u155,u156,u157,u158,u159].getD j M,rfl,⟨fun j X=>(vN j X).elim,fun _=>⟨rfl,rfl,rfl,Nat.le_refl _,fun _ _=>rfl⟩,fun h=>(vN _ h).elim,fun h=>(vN _ h).elim,fun h=>(vN _ h).elim⟩⟩
    ·rintro x gs h2 ⟨f,rfl,K⟩ hx xO
     have xq:=zP xO hx (acyc _ (by kernel_rfl))
     obtain ⟨W0,⟨Z,hg0⟩,eY⟩:=K.z (xq 16 (by simp))
     have hZk:∀ k,vm.ownBlock = some k→hj.heap.size ≤ k:=fun k hk=>((U HOk).lt k hk).1
     have vB:Hid (MS cp B (W0.setCell (D cp 10) (f 13)) (.slice (some (D b 0)) g.l.length lc) (f 13) va { g with bg:=8 } t kd n0 (m ++ [c]) l0):=ms_dayrow (U HMk) hg0 hZk (U HOX) (U HZ) Z (fun h=>absurd (show (8:Int) = 0 from h) (by decide)) (by simp; omega)
     have nO:some cp ≠ (f 13).ownBlock:=fun e=>by have:=(Z.lt cp e.symm).1; have:=U HOX; omega
     have jy:Hid (ORow (W0.setCell (D cp 10) (f 13)) hj.heap.size (f 13) (m ++ [c])):=dR nO [f 13] 10 W0 Z
     have uk:Hid (Below B w (W0.setCell (D cp 10) (f 13))):=zh cp (U HMk).hO [f 13] 10 W0 ((U HBk).trans (eA hg0 (fun k hk=>by have:=hZk k hk; have:=(U HMk).hO; have:=U HOX; omega) (U HMk).base))
     have HS5:Hid (hj.heap.size ≤ (W0.setCell (D cp 10) (f 13)).heap.size):=by have:=(gr_set W0 (D cp 10) (f 13)).size; have:=hg0.size; show _ ≤ _; omega
     rw [← eY] at vB jy uk HS5
     clear K xq xO hx Z hg0 hZk nO eY
     dsimp only
     generalize f 0 = v0,f 1 = v1,f 2 = v2,f 3 = v3,f 4 = v4,f 5 = v5,f 6 = v6,f 7 = v7,f 8 = v8,f 9 = v9,f 10 = v10,f 11 = v11,f 12 = v12
     generalize f 13 = v13 at *
     generalize f 14 = v14,f 15 = v15
     go_wp2_with fail
     dsimp only [I,J,D,M,yk,yl,yw,yx,yy]
     go_roundw
     case rel=>exact ⟨k + 1,m ++ [c],v13,by omega,by go_num,HP1,by simp; omega,vB,jy,uk,U HS5⟩
     case measure=>simp [intOf]; omega
    ·rintro x gs cl i op ⟨f,rfl,K⟩ F hx Z xt E
     have xu:=H K
     match i,Z with
     | 0,Z | 1,Z | 5,Z =>
      obtain rfl:=yc Z
      clear E K F
      rw [if_pos (by rfl)];unfold Oper.wp;go_simp
      exact ⟨upd f _ (J cp 0),by simp [upd],cJ (U xu) _ _ (yj rfl) (by decide)⟩
     | 2,Z =>
      obtain rfl:=yc Z
      have g1:=K.c 1 (yf E 1 rfl) _ rfl
      clear E K F
      rw [if_pos (by rfl)];unfold Oper.wp;go_simp
      exact ⟨upd f 2 (J cp 0),by simp [upd,g1],cJ (U xu) 2 _ (yj rfl) (by decide)⟩
     | 3,Z =>
      obtain rfl:=yc Z
      have g2:=K.c 2 (yf E 2 rfl) _ rfl
      clear E K F
      rw [if_pos (by rfl)];unfold Oper.wp;go_simp
      exact ⟨upd f 3 (J cp 10),by simp [upd,g2],cJ (U xu) 3 _ (yj rfl) (by decide)⟩
     | 4,Z =>
      obtain rfl:=yc Z
      have g3:=K.c 3 (yf E 3 rfl) _ rfl
      have bm:x[13]? = some false:=zW F 17 4 13 (by kernel_rfl) hx (by simp) xt
      have kj:=H (zx (U HMk) (K.bel bm))
      have zz:=R (U kj).box 10 rfl
      clear E K F
      rw [if_pos (by rfl)];unfold Oper.wp;go_simp
      exact ⟨upd f 4 (vm),by simp [upd,g3],cJ (U xu) 4 _ (yj rfl) (by decide)⟩
     | 6,Z =>
      obtain rfl:=yc Z
      have g5:=K.c 5 (yf E 5 rfl) _ rfl
      clear E K F
      rw [if_pos (by rfl)];unfold Oper.wp;go_simp
      exact ⟨upd f 6 (J cp 0),by simp [upd,g5],cJ (U xu) 6 _ (yj rfl) (by decide)⟩
     | 7,Z =>
      obtain rfl:=yc Z
      have g6:=K.c 6 (yf E 6 rfl) _ rfl
      clear E K F
      rw [if_pos (by rfl)];unfold Oper.wp;go_simp
      exact ⟨upd f 7 (J cp 1),by simp [upd,g6],cJ (U xu) 7 _ (yj rfl) (by decide)⟩
     | 8,Z =>
      obtain rfl:=yc Z
      have g7:=K.c 7 (yf E 7 rfl) _ rfl
      have bm:x[13]? = some false:=zW F 17 8 13 (by kernel_rfl) hx (by simp) xt
      have kj:=H (zx (U HMk) (K.bel bm))
      have zz:=R (U kj).box 1 rfl
      clear E K F
      rw [if_pos (by rfl)];unfold Oper.wp;go_simp
      exact ⟨upd f 8 (.slice (some (D b 0)) g.l.length lc),by simp [upd,g7],cJ (U xu) 8 _ (yj rfl) (by decide)⟩
     | 9,Z =>
      obtain rfl:=yc Z
      clear E K F
      rw [if_pos (by rfl)];unfold Oper.wp;go_simp
      exact ⟨upd f 9 (I k),by simp [upd],cJ (U xu) 9 _ (yj rfl) (by decide)⟩
     | 10,Z =>
      obtain rfl:=yc Z
      have g8:=K.c 8 (yf E 8 rfl) _ rfl
      have g9:=K.c 9 (yf E 9 rfl) _ rfl
      clear E K F
      rw [if_pos (by rfl)];unfold Oper.wp;go_simp
      exact ⟨upd f 10 (J b (k * 6)),by simp [upd,g8,g9],cJ (U xu) 10 _ (yj rfl) (by decide)⟩
     | 11,Z =>
      obtain rfl:=yc Z
      have qy:=K.c 10 (yf E 10 rfl) _ rfl
      have bm:x[13]? = some false:=zW F 17 11 13 (by kernel_rfl) hx (by simp) xt
      obtain ⟨y0,y1,y2,y3,y4,y5⟩:=zB (zc (U HC0) (K.bel bm) Q)
      clear E K F
      rw [if_pos (by rfl)];unfold Oper.wp;go_simp
      exact ⟨upd f 11 (.agg (yx c.id c.side c.ticks c.left c.life c.tag).toArray),by simp [upd,qy],cJ (U xu) 11 _ (yj rfl) (by decide)⟩
     | 12,Z =>
      obtain rfl:=yc Z
      have vI:=K.c 11 (yf E 11 rfl) _ rfl
      have bm:x[13]? = some false:=zW F 17 12 13 (by kernel_rfl) hx (by simp) xt
      have k16:x[16]? = some false:=zW F 17 12 16 (by kernel_rfl) hx (by simp) xt
      clear E K F
      rw [if_pos (by rfl)];unfold Oper.wp;go_simp
      exact ⟨upd f 12 (.slice (some (D cl.heap.size 0)) 1 1),by simp [upd,vI],rdd_12 (U xu) bm k16 (fun v u hu=>by cases hu)⟩
     | 13,Z =>
      obtain rfl:=yc Z
      have k16:x[16]? = some false:=zW F 17 13 16 (by kernel_rfl) hx (by simp) xt
      have g4':=K.c 4 (yf E 4 rfl) _ rfl
      obtain ⟨b4,ua,ul,xQ⟩:=K.m4 (yf E 12 rfl) xt
      have vo:=K.bel xt
      have qS:=H (zO (U HOk) vo)
      have qY:Hid (∀ j u,c.vs[j]? = some u→cl.cell? (((D b4 0):Addr).add j) = some u):=fun j u hu=>by
       have:=xQ j u hu
       rw [Addr.add_mid]; exact this
      clear E K F xQ
      rw [if_pos (by rfl)]
      refine wp_append_own cl (.tmp 148) (.tmp 156) 32 rfl hj.heap.size 78 i0 _ 6 56 Tryz.underlying32 vC uK uL uZ rfl (by decide) vm m.length (m.flatMap Od.vs) (by show f 4 = _; exact g4') (U qS) (D b4 0) 1 1 c.vs (by show f 12 = _; exact ua) rfl (U qY) (one_od c) (by unfold maxLen; omega) (by omega) (yO kB vo.size) ?_
      intro v' w' xS um _
      refine ⟨upd f 13 v',rfl,rdd_13 (U xu) xt k16 (fun v u hu=>by cases hu) ⟨?_,(cR vo yb).trans um⟩⟩
      show w'.ownsRow _ _ _ _ (m ++ [c]).length _
      rw [yQ,List.flatMap_append]
      simpa using xS
     | 14,Z =>
      obtain rfl:=yc Z
      have g0:=K.c 0 (yf E 0 rfl) _ rfl
      clear E K F
      rw [if_pos (by rfl)];unfold Oper.wp;go_simp
      exact ⟨upd f 14 (J cp 0),by simp [upd,g0],cJ (U xu) 14 _ (yj rfl) (by decide)⟩
     | 15,Z =>
      obtain rfl:=yc Z
      have jo:=K.c 14 (yf E 14 rfl) _ rfl
      clear E K F
      rw [if_pos (by rfl)];unfold Oper.wp;go_simp
      exact ⟨upd f 15 (J cp 10),by simp [upd,jo],cJ (U xu) 15 _ (yj rfl) (by decide)⟩
     | 16,Z =>
      obtain rfl:=yc Z
      have g15:=K.c 15 (yf E 15 rfl) _ rfl
      have bm:x[13]? = some true:=E ⟨13,.data⟩ (by simp) rfl
      obtain ⟨ho5,jl⟩:=K.m5 bm xt
      have nO:some cp ≠ vm.ownBlock:=fun e=>by have:=((U HOk).lt cp e.symm).1; have:=U HOX; omega
      have jg:=H (bx (U HMk).box (jl.block cp (U HMk).lt nO))
      have y1:=R (U jg) 10 rfl
      have q1:=zd (U jg) 10 (by show 10 < 13; decide)
      obtain ⟨ga,gc,qP⟩:=cA (zI ho5 (by simp; omega))
      generalize (m ++ [c]).length = gn at qP
      clear E K F ho5 jl nO
      rw [if_pos (by rfl)];unfold Oper.wp;go_simp
      refine ⟨f,by simp [g15,qP],?_⟩
      have:=rdd_16 (U xu) bm xt (fun v u hu=>by cases hu)
      rw [qP] at this
      exact this
     | i + 17,Z=>simp at Z
   ·have HP1:Hid (g.l.filter isDy = m ++ (g.l.drop (k + 1)).filter isDy):=by
     have:=U HP
     rw [List.filter_cons_of_neg (by simp [isDy,uj])] at this
     exact this
    clear HP
    go_wp2_with fail
    dsimp only [I,J,D,M,yk,yl,yw,yx,yy]
    go_roundw
    case rel=>exact ⟨k + 1,m,vm,by omega,by go_num,HP1,by omega,HMk,HOk,HBk,kB⟩
    case measure=>simp [intOf]; omega
  ·have HE:Hid (g.l.filter isDy = m):=by
    have:=U uP
    rw [xb (by omega)] at this
    show _ = _
    rw [this]; simp
   have hge:¬ ((k:Int) < g.l.length):=by omega
   clear uP xI
   go_wp2_with fail
   go_end0
   refine U qM _ (.slice la g.l.length lc) vm (U HBk) ?_
   rw [U uh,(U uz).1,(U uz).2.1,(U uz).2.2,U HE]
   exact U HMk
theorem take_any {cp B:Nat} {vl vd va:Value} {g:Gr} {t:Od} {kd n0:Int} {dy l0:List Od} (e:Ev) (w:World) (h:MS cp B w vl vd va g t kd n0 dy l0) (hi:GI g) (hm:MR g t kd dy) (he:okE e = true) (hr:zG g e = 0):Calls Tryz.prog 52 #[J cp 0,evV e] w fun x w'=>TakE cp B va n0 l0 g t kd dy e w x w':=by
 have hk:=ei he
 obtain ⟨xn,⟨ck,L,ct,V,cq,ci,O,cg⟩,id,xj,qty,xk,xi⟩:=e
 simp only at hk
 rcases (by omega:xn = 1 ∨ xn = 2 ∨ xn = 3 ∨ xn = 4 ∨ xn = 5 ∨ xn = 6 ∨ xn = 7 ∨ xn = 8 ∨ xn = 9) with rfl | rfl | rfl | rfl | rfl | rfl | rfl | rfl | rfl
 ·exact take_1 ck L ct V cq ci O cg id xj qty xk xi w h hi hm he hr
 ·exact take_2 ck L ct V cq ci O cg id xj qty xk xi w h hi hm he hr
 ·exact take_3 ck L ct V cq ci O cg id xj qty xk xi w h hi hm he hr
 ·exact take_4 ck L ct V cq ci O cg id xj qty xk xi w h hi hm he hr
 ·exact take_5 ck L ct V cq ci O cg id xj qty xk xi w h hi hm he hr
 ·exact take_6 ck L ct V cq ci O cg id xj qty xk xi w h hi hm he hr
 ·exact take_7 ck L ct V cq ci O cg id xj qty xk xi w h hi hm he hr
 ·exact take_8 ck L ct V cq ci O cg id xj qty xk xi w h hi hm he hr
 ·exact take_9 ck L ct V cq ci O cg id xj qty xk xi w h hi hm he hr
structure RB (C:Nat→Value→Prop) (B0:World) (cs:List Od) (mk:Value→List Value) (x:List Bool) (f:Nat→Value) (W:World):Prop where
 c:∀ j,x[j]? = some true→C j (f j)
 bel:Below B0.heap.size B0 W
 m2:x[2]? = some true→x[5]? = some false→ORow W B0.heap.size (f 2) []
 m5:x[5]? = some true→ORow W B0.heap.size (f 5) cs
 m7:x[7]? = some true→f 7 = .agg (mk (f 5)).toArray
 m8:x[8]? = some true→∃ cp,f 8 = .pointer (some ⟨cp,0,none⟩)∧B0.heap.size ≤ cp∧cp < W.heap.size∧Bx W cp (mk (f 5))∧∃ cur,W.heap[cp]? = some (.cells cur 80 (0,0))
 m9:x[9]? = some true→f 9 = f 8
def RBA (xo:(Nat→Value)→Act) (C:Nat→Value→Prop) (B0:World) (cs:List Od) (mk:Value→List Value) (x:List Bool) (gs:Act) (W:World):Prop:=∃ f,gs = xo f∧RB C B0 cs mk x f W
section
variable {C:Nat→Value→Prop} {B0 W W':World} {cs:List Od} {mk:Value→List Value} {x:List Bool} {f:Nat→Value}
theorem rb_val (h:RB C B0 cs mk x f W) (i:Nat) (v:Value) (hv:C i v) (hi:i ≠ 2∧i ≠ 5∧i ≠ 7∧i ≠ 8∧i ≠ 9):RB C B0 cs mk (x.set i true) (upd f i v) W:=by
 obtain ⟨Y,h5,h7,h8,h9⟩:=hi
 refine ⟨zD h.c hv,h.bel,?_,?_,?_,?_,?_⟩ <;> simp only [gq Y,gq h5,gq h7,gq h8,gq h9,zk f v Y.symm,zk f v h5.symm,zk f v h7.symm,zk f v h8.symm,zk f v h9.symm]
 ·exact h.m2
 ·exact h.m5
 ·exact h.m7
 ·exact h.m8
 ·exact h.m9
theorem rb_2 (h:RB C B0 cs mk x f W) (n5:x[5]? = some false) (n8:x[8]? = some false) (n7:x[7]? = some false) (n9:x[9]? = some false) (hc:∀ v,C 2 v):RB C B0 cs mk (x.set 2 true) (upd f 2 (.slice (some (D W.heap.size 0)) 0 0)) (W.alloc (A #[] 78)) :=
 ⟨zD h.c (hc _),h.bel.alloc h.bel.size _,fun _ _=>(by rw [zt]; exact World.ownsRow_made W #[] 0 h.bel.size (by decide) rfl),fun e=>(by rw [gq (by decide),n5] at e; cases e),fun e=>(by rw [gq (by decide),n7] at e; cases e),fun e=>(by rw [gq (by decide),n8] at e; cases e),fun e=>(by rw [gq (by decide),n9] at e; cases e)⟩
theorem rb_5 (h:RB C B0 cs mk x f W) (Y:x[2]? = some true) (n5:x[5]? = some false) (n7:x[7]? = some false) (n8:x[8]? = some false) (n9:x[9]? = some false) (hc:∀ v,C 5 v) {v':Value} (Z:ORow W' B0.heap.size v' cs) (hg:W.grownBy W' (f 2).ownBlock):RB C B0 cs mk (x.set 5 true) (upd f 5 v') W' :=
 ⟨zD h.c (hc _),h.bel.grown hg h.bel.size (fun k hk=>((h.m2 Y n5).lt k hk).1),fun _ e=>(by rw [gqs n5] at e; cases e),fun _=>(by rw [zt]; exact Z),fun e=>(by rw [gq (by decide),n7] at e; cases e),fun e=>(by rw [gq (by decide),n8] at e; cases e),fun e=>(by rw [gq (by decide),n9] at e; cases e)⟩
theorem rb_7 (h:RB C B0 cs mk x f W) (n8:x[8]? = some false) (n9:x[9]? = some false) (hc:∀ v,C 7 v):RB C B0 cs mk (x.set 7 true) (upd f 7 (.agg (mk (f 5)).toArray)) W:=by
 refine ⟨zD h.c (hc _),h.bel,?_,?_,fun _=>?_,fun e=>?_,fun e=>?_⟩
 ·rw [gq (by decide),gq (by decide),zk _ _ (by decide)]; exact h.m2
 ·rw [gq (by decide),zk _ _ (by decide)]; exact h.m5
 ·rw [zt,zk _ _ (by decide)]
 ·rw [gq (by decide),n8] at e; cases e
 ·rw [gq (by decide),n9] at e; cases e
theorem rb_8 (h:RB C B0 cs mk x f W) (h5:x[5]? = some true) (h7:x[7]? = some true) (n9:x[9]? = some false) (hc:∀ v,C 8 v):RB C B0 cs mk (x.set 8 true) (upd f 8 (J W.heap.size 0)) (W.alloc (A (mk (f 5)).toArray 80)):=by
 have Q:=gp W (A (mk (f 5)).toArray 80)
 refine ⟨zD h.c (hc _),h.bel.alloc h.bel.size _,fun _ e=>?_,fun _=>?_,fun _=>?_,fun _=>⟨W.heap.size,zt _ _ _,h.bel.size,by simp,?_,?_⟩,fun e=>?_⟩
 ·rw [gq (by decide),h5] at e; cases e
 ·rw [zk _ _ (by decide)]; exact zO (h.m5 h5) Q
 ·rw [zk _ _ (by decide),zk _ _ (by decide)]; exact h.m7 h7
 ·rw [zk _ _ (by decide)]; exact zq W (mk (f 5)) 80
 ·exact ⟨_,heap_alloc_new W _⟩
 ·rw [gq (by decide),n9] at e; cases e
theorem rb_9 (h:RB C B0 cs mk x f W) (hc:∀ v,C 9 v):RB C B0 cs mk (x.set 9 true) (upd f 9 (f 8)) W:=by
 refine ⟨zD h.c (hc _),h.bel,?_,?_,?_,?_,fun _=>?_⟩
 ·rw [gq (by decide),gq (by decide),zk _ _ (by decide)]; exact h.m2
 ·rw [gq (by decide),zk _ _ (by decide)]; exact h.m5
 ·rw [gq (by decide),zk _ _ (by decide),zk _ _ (by decide)]; exact h.m7
 ·rw [gq (by decide),zk _ _ (by decide),zk _ _ (by decide)]; exact h.m8
 ·rw [zt,zk _ _ (by decide)]
end
theorem l05Begin_any (next:Int) (vb:Value) (l:List Od) (w:World) (hr:RdR Od.vs 6 w vb l) (hs:SlOk vb) (hn:l.length ≤ 1000) :
  Calls Tryz.prog 51 #[.agg #[I next,vb]] w fun x w'=>∃ cp vl,x = .returned (J cp 0)∧MS cp w.heap.size w' vl (.slice none 0 0) vb (gr0 next l) zOd 0 next [] l∧yp w w':=by
 obtain ⟨i0,vC,uK,uL,uZ⟩:=info_parts Tryz.infoOrder
 obtain ⟨a,cap,rfl,xz,hc⟩:=id hr
 have HNA:Hid (l ≠ []→∀ b off n c,Value.slice a l.length cap = .slice (some (D b off)) n c→b < w.heap.size):=fun xA b off n c e=>by
  obtain ⟨b2,o2,e2,Q,-⟩:=hc xA
  simp only [Value.slice.injEq] at e
  rw [e.1] at e2
  simp only [Option.some.injEq,Addr.mk.injEq,and_true] at e2
  rw [e2.1]; exact Q
 obtain ⟨xC,HX⟩:=gw w [I next,.slice a l.length cap] 34
 have HB:=H xC
 have uQ:=H (zi hr xC yb)
 have kE:=H hs
 clear hr hs hc xC
 go_enter Tryz.func51,Tryz.ntmps51
 refine gv fun hR HK=>?_
 go_wp2_with fail
 refine U HK _ _ ?_
 clear HK
 generalize (w.alloc (A #[I next,.slice a l.length cap] 34)) = hj at HB HX uQ ⊢
 have hSX:w.heap.size < hj.heap.size:=yL _ _ (R (U HX) 0 rfl)
 go_wp2_with fail
 refine zn (RBA (fun f=>{ tmps:=#[.agg #[I next,.slice a l.length cap],J w.heap.size 0,f 9,f 0,f 1,f 2,f 3,f 4,f 5,f 6,f 7,f 8],defers:=[] }) (fun j v=>∀ u,([some (J w.heap.size 0),some (I next),none,some (J w.heap.size 1),some (.slice a l.length cap),none,some (.agg #[I next,.slice a l.length cap]),none,none,none]:List (Option Value))[j]? = some (some u)→v = u) hj l (fun v=>msV v (.slice none 0 0) (.slice a l.length cap) (gr0 next l) zOd 0 next)) (by kernel_rfl) ?_ ?_ ?_
 ·have vN:∀ j,(List.replicate 10 false)[j]? = some true→False:=fun j X=>by rw [yJ] at X; split at X <;> simp at X
  exact ⟨fun j=>if j = 9 then .pointer none else M,rfl,⟨fun j X=>(vN j X).elim,⟨rfl,rfl,rfl,Nat.le_refl _,fun _ _=>rfl⟩,fun h=>(vN _ h).elim,fun h=>(vN _ h).elim,fun h=>(vN _ h).elim,fun h=>(vN _ h).elim,fun h=>(vN _ h).elim⟩⟩
 ·rintro x gs h2 ⟨f,rfl,K⟩ hx xO
  have xq:=zP xO hx (acyc _ (by kernel_rfl))
  obtain ⟨cp,e8,hO,hOY,kR,hty⟩:=K.m8 (xq 8 (by simp))
  have e9:=(K.m9 (xq 9 (by simp))).trans e8
  have kK:Hid (MS cp w.heap.size h2 (f 5) (.slice none 0 0) (.slice a l.length cap) (gr0 next l) zOd 0 next [] l):=⟨kR,zU (K.m5 (xq 5 (by simp))) (U HB).size,⟨none,0,rfl,by decide,fun h=>absurd rfl h⟩,zi (U uQ) K.bel yb,U kE,hty,yO (U HB).size hO,fun _=>⟨rfl,rfl,rfl⟩,fun h=>absurd rfl h,U HNA⟩
  have HBY:=H ((U HB).trans (K.bel.mono (U HB).size))
  dsimp only
  rw [e9]
  clear K xq xO hx e8 e9 kR hty hO hOY
  generalize f 0 = v0,f 1 = v1,f 2 = v2,f 3 = v3,f 4 = v4
  generalize f 5 = v5 at *
  generalize f 6 = v6,f 7 = v7,f 8 = v8
  go_wp2_with fail
  go_ret
  exact ⟨cp,v5,rfl,U kK,U HBY⟩
 ·rintro x gs cl i op ⟨f,rfl,K⟩ F hx Z xt E
  have xu:=H K
  have vo:=K.bel
  match i,Z with
  | 0,Z =>
   obtain rfl:=yc Z
   clear E K F
   rw [if_pos (by rfl)];unfold Oper.wp;go_simp
   exact ⟨upd f 0 (J w.heap.size 0),by simp [upd],rb_val (U xu) 0 _ (yj rfl) (by decide)⟩
  | 1,Z =>
   obtain rfl:=yc Z
   have g0:=K.c 0 (yf E 0 rfl) _ rfl
   have z0:=R (zf (U HX) vo hSX) 0 rfl
   clear E K F
   rw [if_pos (by rfl)];unfold Oper.wp;go_simp
   exact ⟨upd f 1 (I next),by simp [upd,g0],rb_val (U xu) 1 _ (yj rfl) (by decide)⟩
  | 2,Z =>
   obtain rfl:=yc Z
   have n5:x[5]? = some false:=zW F 10 2 5 (by kernel_rfl) hx (by simp) xt
   have n7:x[7]? = some false:=zW F 10 2 7 (by kernel_rfl) hx (by simp) xt
   have n8:x[8]? = some false:=zW F 10 2 8 (by kernel_rfl) hx (by simp) xt
   have n9:x[9]? = some false:=zW F 10 2 9 (by kernel_rfl) hx (by simp) xt
   clear E K F
   rw [if_pos (by rfl)];unfold Oper.wp;go_simp
   exact ⟨upd f 2 (.slice (some (D cl.heap.size 0)) 0 0),by simp [upd],rb_2 (U xu) n5 n8 n7 n9 (fun v u hu=>by cases hu)⟩
  | 3,Z =>
   obtain rfl:=yc Z
   clear E K F
   rw [if_pos (by rfl)];unfold Oper.wp;go_simp
   exact ⟨upd f 3 (J w.heap.size 1),by simp [upd],rb_val (U xu) 3 _ (yj rfl) (by decide)⟩
  | 4,Z =>
   obtain rfl:=yc Z
   have g3:=K.c 3 (yf E 3 rfl) _ rfl
   have z1:=R (zf (U HX) vo hSX) 1 rfl
   clear E K F
   rw [if_pos (by rfl)];unfold Oper.wp;go_simp
   exact ⟨upd f 4 (.slice a l.length cap),by simp [upd,g3],rb_val (U xu) 4 _ (yj rfl) (by decide)⟩
  | 5,Z =>
   obtain rfl:=yc Z
   have n7:x[7]? = some false:=zW F 10 5 7 (by kernel_rfl) hx (by simp) xt
   have n8:x[8]? = some false:=zW F 10 5 8 (by kernel_rfl) hx (by simp) xt
   have n9:x[9]? = some false:=zW F 10 5 9 (by kernel_rfl) hx (by simp) xt
   have k2:x[2]? = some true:=E ⟨2,.data⟩ (by simp) rfl
   have g4:=K.c 4 (yf E 4 rfl) _ rfl
   have HO0:=H (K.m2 k2 xt)
   have HRDV:Hid (∀ ad,a = some ad→∀ j u,(l.flatMap Od.vs)[j]? = some u→cl.cell? (ad.add j) = some u):=fun ad had=>by
    have h:=zi (U uQ) vo yb
    rw [had] at h
    exact rd_src h
   clear E K F
   rw [if_pos (by rfl)]
   rcases U kE with h | ⟨ad,nn,cc,h⟩
   ·simp only [Value.slice.injEq] at h
    have hL:l = []:=List.length_eq_zero_iff.1 h.2.1
    refine fS (.tmp 5) (.tmp 7) 32 rfl hj.heap.size 78 i0 6 Tryz.underlying32 vC (f 2) 0 [] rfl (U HO0) (by show f 4 = _; rw [g4,h.1,h.2.1,h.2.2]) ?_
    exact ⟨upd f 5 (f 2),rfl,rb_5 (U xu) k2 xt n7 n8 n9 (fun v u hu=>by cases hu) (by rw [hL]; exact U HO0) (yS _ _)⟩
   ·simp only [Value.slice.injEq] at h
    refine wp_append_own cl (.tmp 5) (.tmp 7) 32 rfl hj.heap.size 78 i0 _ 6 56 Tryz.underlying32 vC uK uL uZ rfl (by decide) (f 2) 0 [] rfl (U HO0) ad l.length cap (l.flatMap Od.vs) (by show f 4 = _; rw [g4,h.1]) (by rw [bJ Od.len]) (U HRDV ad h.1) (cX l) (by unfold maxLen; omega) (by omega) vo.size ?_
    intro v' w' xS um _
    refine ⟨upd f 5 v',rfl,rb_5 (U xu) k2 xt n7 n8 n9 (fun v u hu=>by cases hu) ?_ um⟩
    show w'.ownsRow _ _ _ _ l.length _
    simpa using xS
  | 6,Z =>
   obtain rfl:=yc Z
   have z0:=R (zf (U HX) vo hSX) 0 rfl
   have z1:=R (zf (U HX) vo hSX) 1 rfl
   clear E K F
   rw [if_pos (by rfl)];unfold Oper.wp;go_simp
   exact ⟨upd f 6 (.agg #[I next,.slice a l.length cap]),by simp [upd],rb_val (U xu) 6 _ (yj rfl) (by decide)⟩
  | 7,Z =>
   obtain rfl:=yc Z
   have g1:=K.c 1 (yf E 1 rfl) _ rfl
   have g6:=K.c 6 (yf E 6 rfl) _ rfl
   have n8:x[8]? = some false:=zW F 10 7 8 (by kernel_rfl) hx (by simp) xt
   have n9:x[9]? = some false:=zW F 10 7 9 (by kernel_rfl) hx (by simp) xt
   obtain ⟨ga,gc,g5⟩:=cA (zI (K.m5 (yf E 5 rfl)) (by omega))
   have qJ:=H (rb_7 (U xu) n8 n9 (fun v u hu=>by cases hu))
   rw [g5] at qJ
   unfold msV at qJ
   clear E K F
   rw [if_pos (by rfl)];unfold Oper.wp;go_simp
   exact ⟨_,by simp [upd,g1,g5,g6]; exact ⟨rfl,rfl,rfl,rfl,rfl,rfl,rfl,rfl⟩,U qJ⟩
  | 8,Z =>
   obtain rfl:=yc Z
   have n9:x[9]? = some false:=zW F 10 8 9 (by kernel_rfl) hx (by simp) xt
   have k7:x[7]? = some true:=E ⟨7,.data⟩ (by simp) rfl
   have k5:x[5]? = some true:=yh F 7 rfl k7 5 rfl
   have g7:=K.m7 k7
   have qJ:=H (rb_8 (U xu) k5 k7 n9 (fun v u hu=>by cases hu))
   simp only [msV,gr0] at g7 qJ
   clear E K F
   rw [if_pos (by rfl)];unfold Oper.wp;go_simp
   exact ⟨upd f 8 (J cl.heap.size 0),by simp [upd,g7],U qJ⟩
  | 9,Z =>
   obtain rfl:=yc Z
   clear E K F
   rw [if_pos (by rfl)];unfold Oper.wp;go_simp
   exact ⟨upd f 9 (f 8),by simp [upd],rb_9 (U xu) (fun v u hu=>by cases hu)⟩
  | i + 10,Z=>simp at Z
end Go.Proofs.YtnphbkgfjanmgaaGreatDoor
