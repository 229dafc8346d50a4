/-
  Two events held against each other by the model: proved by walking the function.
-/
import Derived.Test.YtopjoogdpjaocaaGreatTj43
set_option linter.unusedVariables false
set_option maxHeartbeats 6400000
set_option maxRecDepth 100000
namespace Go.Proofs.YtopjoogdpjaocaaGreat
open Go.RowKit
set_option maxRecDepth 100000 in
set_option maxHeartbeats 3200000 in
theorem l04Same_any (a b:Ev) (w:World) :
  Calls Tryz.prog 13 #[evV a,evV b] w fun e w'=>e = .returned (.bool (zbr a b))∧Below w.heap.size w w':=by
 obtain ⟨kind,⟨k,s,t,l,q,i,p,g⟩,id,other,qty,price,reason⟩:=a
 obtain ⟨kind2,⟨k2,s2,t2,l2,q2,i2,p2,g2⟩,id2,other2,qty2,price2,reason2⟩:=b
 have HX:=hide (two_boxes w [.int .i64 kind,.int .i64 k,.int .i64 s,.int .i64 t,.int .i64 l,.int .i64 q,.int .i64 i,.float .f64 p,.string g,.int .i64 id,.int .i64 other,.int .i64 qty,.int .i64 price,.int .i64 reason] [.int .i64 kind2,.int .i64 k2,.int .i64 s2,.int .i64 t2,.int .i64 l2,.int .i64 q2,.int .i64 i2,.float .f64 p2,.string g2,.int .i64 id2,.int .i64 other2,.int .i64 qty2,.int .i64 price2,.int .i64 reason2] 43)
 have HC:=hide (fun W=>l04SameCmd_any ⟨k,s,t,l,q,i,p,g⟩ ⟨k2,s2,t2,l2,q2,i2,p2,g2⟩ W)
 have HS:Hid (zbr ⟨kind,⟨k,s,t,l,q,i,p,g⟩,id,other,qty,price,reason⟩ ⟨kind2,⟨k2,s2,t2,l2,q2,i2,p2,g2⟩,id2,other2,qty2,price2,reason2⟩ = ((kind == kind2) && (smCb ⟨k,s,t,l,q,i,p,g⟩ ⟨k2,s2,t2,l2,q2,i2,p2,g2⟩ && ((id == id2) && ((other == other2) && ((qty == qty2) && ((price == price2) && (reason == reason2)))))))):=hide (by
  rw [zbr,smCb]
  simp only
  cases (kind == kind2) <;> cases (id == id2) <;> cases (other == other2) <;> cases (qty == qty2) <;> cases (price == price2) <;> cases (reason == reason2) <;> simp)
 generalize zbr ⟨kind,⟨k,s,t,l,q,i,p,g⟩,id,other,qty,price,reason⟩ ⟨kind2,⟨k2,s2,t2,l2,q2,i2,p2,g2⟩,id2,other2,qty2,price2,reason2⟩ = R at HS ⊢
 generalize smCb ⟨k,s,t,l,q,i,p,g⟩ ⟨k2,s2,t2,l2,q2,i2,p2,g2⟩ = C at HS HC
 unfold evV
 unfold cmV at HC
 simp only at HC ⊢
 go_enter Tryz.func13,Tryz.ntmps13
 refine wp_seq_k fun K hK=>?_
 have HK1:=hide hK
 clear hK
 go_wp2_with fail
 refine za HK1 _ _ ?_
 clear HK1
 change Hid (Bx ((w.alloc (Obj.cells #[.int .i64 kind,.int .i64 k,.int .i64 s,.int .i64 t,.int .i64 l,.int .i64 q,.int .i64 i,.float .f64 p,.string g,.int .i64 id,.int .i64 other,.int .i64 qty,.int .i64 price,.int .i64 reason] 43)).alloc (Obj.cells #[.int .i64 kind2,.int .i64 k2,.int .i64 s2,.int .i64 t2,.int .i64 l2,.int .i64 q2,.int .i64 i2,.float .f64 p2,.string g2,.int .i64 id2,.int .i64 other2,.int .i64 qty2,.int .i64 price2,.int .i64 reason2] 43)) w.heap.size [.int .i64 kind,.int .i64 k,.int .i64 s,.int .i64 t,.int .i64 l,.int .i64 q,.int .i64 i,.float .f64 p,.string g,.int .i64 id,.int .i64 other,.int .i64 qty,.int .i64 price,.int .i64 reason]∧Bx ((w.alloc (Obj.cells #[.int .i64 kind,.int .i64 k,.int .i64 s,.int .i64 t,.int .i64 l,.int .i64 q,.int .i64 i,.float .f64 p,.string g,.int .i64 id,.int .i64 other,.int .i64 qty,.int .i64 price,.int .i64 reason] 43)).alloc (Obj.cells #[.int .i64 kind2,.int .i64 k2,.int .i64 s2,.int .i64 t2,.int .i64 l2,.int .i64 q2,.int .i64 i2,.float .f64 p2,.string g2,.int .i64 id2,.int .i64 other2,.int .i64 qty2,.int .i64 price2,.int .i64 reason2] 43)) (w.heap.size + 1) [.int .i64 kind2,.int .i64 k2,.int .i64 s2,.int .i64 t2,.int .i64 l2,.int .i64 q2,.int .i64 i2,.float .f64 p2,.string g2,.int .i64 id2,.int .i64 other2,.int .i64 qty2,.int .i64 price2,.int .i64 reason2]∧Below w.heap.size w ((w.alloc (Obj.cells #[.int .i64 kind,.int .i64 k,.int .i64 s,.int .i64 t,.int .i64 l,.int .i64 q,.int .i64 i,.float .f64 p,.string g,.int .i64 id,.int .i64 other,.int .i64 qty,.int .i64 price,.int .i64 reason] 43)).alloc (Obj.cells #[.int .i64 kind2,.int .i64 k2,.int .i64 s2,.int .i64 t2,.int .i64 l2,.int .i64 q2,.int .i64 i2,.float .f64 p2,.string g2,.int .i64 id2,.int .i64 other2,.int .i64 qty2,.int .i64 price2,.int .i64 reason2] 43))) at HX
 generalize (w.alloc (Obj.cells #[.int .i64 kind,.int .i64 k,.int .i64 s,.int .i64 t,.int .i64 l,.int .i64 q,.int .i64 i,.float .f64 p,.string g,.int .i64 id,.int .i64 other,.int .i64 qty,.int .i64 price,.int .i64 reason] 43)).alloc (Obj.cells #[.int .i64 kind2,.int .i64 k2,.int .i64 s2,.int .i64 t2,.int .i64 l2,.int .i64 q2,.int .i64 i2,.float .f64 p2,.string g2,.int .i64 id2,.int .i64 other2,.int .i64 qty2,.int .i64 price2,.int .i64 reason2] 43) = W at HX ⊢
 obtain ⟨X,Y,HB⟩:=za HX
 have HB:=hide HB
 have x0:=zd X 0 rfl
 have x1:=zd X 1 rfl
 have x2:=zd X 2 rfl
 have x3:=zd X 3 rfl
 have x4:=zd X 4 rfl
 have x5:=zd X 5 rfl
 have x6:=zd X 6 rfl
 have x7:=zd X 7 rfl
 have x8:=zd X 8 rfl
 have x9:=zd X 9 rfl
 have x10:=zd X 10 rfl
 have x11:=zd X 11 rfl
 have x12:=zd X 12 rfl
 have x13:=zd X 13 rfl
 have y0:=zd Y 0 rfl
 have y1:=zd Y 1 rfl
 have y2:=zd Y 2 rfl
 have y3:=zd Y 3 rfl
 have y4:=zd Y 4 rfl
 have y5:=zd Y 5 rfl
 have y6:=zd Y 6 rfl
 have y7:=zd Y 7 rfl
 have y8:=zd Y 8 rfl
 have y9:=zd Y 9 rfl
 have y10:=zd Y 10 rfl
 have y11:=zd Y 11 rfl
 have y12:=zd Y 12 rfl
 have y13:=zd Y 13 rfl
 have HXY:Hid (_∧_):=hide ⟨X,Y⟩
 have hXs:w.heap.size < W.heap.size:=World.block_lt_of_cell? W _ x0
 have hYs:w.heap.size + 1 < W.heap.size:=World.block_lt_of_cell? W _ y0
 clear X Y HX
 cases h0:(kind == kind2)
 ·go_wp2_with fail
  go_returns
  exact ⟨by rw [za HS,h0]; rfl,za HB⟩
 go_wp2_with fail
 refine (za HC W).mono ?_
 rintro e w2 ⟨rfl,hb⟩
 have HB2:=hide ((za HB).trans (hb.mono (za HB).size))
 have X:=zP (za HXY).1 hb hXs
 have Y:=zP (za HXY).2 hb hYs
 clear x0 x1 x2 x3 x4 x5 x6 x7 x8 x9 x10 x11 x12 x13 y0 y1 y2 y3 y4 y5 y6 y7 y8 y9 y10 y11 y12 y13 hb HXY hXs hYs
 have x9:=zd X 9 rfl
 have x10:=zd X 10 rfl
 have x11:=zd X 11 rfl
 have x12:=zd X 12 rfl
 have x13:=zd X 13 rfl
 have y9:=zd Y 9 rfl
 have y10:=zd Y 10 rfl
 have y11:=zd Y 11 rfl
 have y12:=zd Y 12 rfl
 have y13:=zd Y 13 rfl
 clear X Y
 rcases (show C = false ∨ C = true∧((id == id2) = false ∨ (id == id2) = true∧((other == other2) = false ∨ (other == other2) = true∧((qty == qty2) = false ∨ (qty == qty2) = true∧((price == price2) = false ∨ (price == price2) = true)))) by cases C <;> cases (id == id2) <;> cases (other == other2) <;> cases (qty == qty2) <;> cases (price == price2) <;> simp) with h1 | ⟨h1,h2 | ⟨h2,h3 | ⟨h3,h4 | ⟨h4,h5 | h5⟩⟩⟩⟩
 all_goals
  subst h1
  go_wp2_with fail
  go_returns
  exact ⟨by rw [za HS]; simp_all,za HB2⟩
structure LG (w W:World) (gv:Value) (gs:List Value) (vq:Value) (s:RunSt):Prop where
 r:W.rangeAt (w.heap.size + 1) 0 [gv,.int .i64 s.n,vq,.int .i64 0,.int .i64 0,.int .i64 0,.int .i64 0,.int .i64 0,.int .i64 0,.int .i64 0,.int .i64 0]
 t:W.there (w.heap.size + 1) 0 11
 o:W.there w.heap.size 0 11
 bx:∃ cur,W.heap[w.heap.size + 1]? = some (.cells cur 48 (0,0))
 g:GRow W (w.heap.size + 1 + 1) gv gs
 gl:gs.length = s.g.length
 ge:∀ (i:Nat) (g:Value) (es:List Ev),gs[i]? = some g→s.g[i]? = some es→ERow W (w.heap.size + 1 + 1) g es
 q:ORow W (w.heap.size + 1 + 1) vq s.l
 b:Below w.heap.size w W
 z:w.heap.size + 1 + 1 ≤ W.heap.size
theorem lg_below {w W V:World} {gv:Value} {gs:List Value} {vq:Value} {s:RunSt} (h:LG w W gv gs vq s) (hb:Below W.heap.size W V):LG w V gv gs vq s:=by
 have hz:=h.z
 have hk:∀ {e sz n:Nat} {v:Value} {xs:List Value},W.ownsRow (w.heap.size + 1 + 1) e sz v n xs→V.ownsRow (w.heap.size + 1 + 1) e sz v n xs:=fun {e sz n v xs} hr=>World.ownsRow.kept (row:=none) hr (zaa hb (Nat.le_refl _)) (by cases v.ownBlock <;> simp)
 refine ⟨zb h.r hb (by omega),zf h.t hb (by omega),zf h.o hb (by omega),?_,hk h.g,h.gl,fun i g es hg he=>hk (h.ge i g es hg he),hk h.q,h.b.trans (hb.mono h.b.size),Nat.le_trans hz hb.size⟩
 obtain ⟨cur,hc⟩:=h.bx
 exact ⟨cur,(hb.block _ (by omega)).trans hc⟩
theorem lg_book {w W:World} {gv:Value} {gs:List Value} {vq vq':Value} {s:RunSt} (h:LG w W gv gs vq s) (N:Int) (L:List Od) (ho:ORow W (w.heap.size + 1 + 1) vq' L):LG w ((W.setCell ⟨w.heap.size + 1,1,none⟩ (.int .i64 N)).setCell ⟨w.heap.size + 1,2,none⟩ vq') gv gs vq' ⟨N,L,s.g,s.t⟩:=by
 have hk:∀ {e sz n:Nat} {v:Value} {xs:List Value},48 ≠ e→W.ownsRow (w.heap.size + 1 + 1) e sz v n xs→World.ownsRow ((W.setCell ⟨w.heap.size + 1,1,none⟩ (.int .i64 N)).setCell ⟨w.heap.size + 1,2,none⟩ vq') (w.heap.size + 1 + 1) e sz v n xs:=fun {e sz n v xs} hne hr=>zt (zt hr (zj hr h.bx hne) 1 _) (zj hr h.bx hne) 2 _
 have r1:=zaP (j:=1) (u:=.int .i64 N) h.r (by simp)
 have r2:=zaP (j:=2) (u:=vq') r1 (by simp)
 refine ⟨r2,zC (zC h.t),zC (zC h.o),?_,hk (by decide) h.g,h.gl,fun i g es hg he=>hk (by decide) (h.ge i g es hg he),hk (by decide) ho,(h.b.setCell (p:=⟨w.heap.size + 1,1,none⟩) (show w.heap.size ≤ w.heap.size + 1 by omega) _).setCell (p:=⟨w.heap.size + 1,2,none⟩) (show w.heap.size ≤ w.heap.size + 1 by omega) _,by simp only [World.setCell,Array.size_modify]; exact h.z⟩
 obtain ⟨cur,hc⟩:=h.bx
 obtain ⟨c1,h1⟩:=zN W (w.heap.size + 1) 1 (.int .i64 N) hc
 exact zN _ (w.heap.size + 1) 2 vq' h1
theorem lg_group {w W V:World} {gv gv' g0:Value} {gs:List Value} {vq:Value} {n:Int} {l:List Od} {gl:List (List Ev)} {t:Tot} {E:List Ev} (h:LG w W gv gs vq ⟨n,l,gl,t⟩) (he:ERow W (w.heap.size + 1 + 1) g0 E) (hg:GRow V (w.heap.size + 1 + 1) gv' (gs ++ [g0])) (hgr:W.grownBy V gv.ownBlock):LG w (V.setCell ⟨w.heap.size + 1,0,none⟩ gv') gv' (gs ++ [g0]) vq ⟨n,l,gl ++ [E],t⟩:=by
 have hz:=h.z
 have hnm:some (w.heap.size + 1) ≠ gv.ownBlock:=zj h.g h.bx (by decide)
 have hn0:some w.heap.size ≠ gv.ownBlock:=fun e=>by have:=(h.g.lt _ e.symm).1; omega
 have hbx:∃ cur,V.heap[w.heap.size + 1]? = some (.cells cur 48 (0,0)):=by
  obtain ⟨cur,hc⟩:=h.bx
  exact ⟨cur,(hgr.block _ (by omega) hnm).trans hc⟩
 have hk:∀ {e sz m:Nat} {v:Value} {xs:List Value},48 ≠ e→36 ≠ e→W.ownsRow (w.heap.size + 1 + 1) e sz v m xs→World.ownsRow (V.setCell ⟨w.heap.size + 1,0,none⟩ gv') (w.heap.size + 1 + 1) e sz v m xs:=fun {e sz m v xs} h1 h2 hr =>
  have h3:V.ownsRow (w.heap.size + 1 + 1) e sz v m xs:=World.ownsRow.kept hr hgr (zB hr h.g (fun e'=>h2 e'.symm))
  zt h3 (zj h3 hbx h1) 0 _
 have r0:=zaP (j:=0) (u:=gv') (zu h.r hgr (by omega) hnm) (by simp)
 refine ⟨r0,zC (zar h.t hgr (by omega) hnm),zC (zar h.o hgr (by omega) hn0),?_,zt hg (zj hg hbx (by decide)) 0 _,by simp [h.gl],?_,hk (by decide) (by decide) h.q,?_,by simp only [World.setCell,Array.size_modify]; exact Nat.le_trans hz hgr.size⟩
 ·obtain ⟨cur,hc⟩:=hbx
  exact zN V (w.heap.size + 1) 0 gv' hc
 ·intro i g es hg1 hes
  have hgl:gs.length = gl.length:=h.gl
  by_cases hi:i < gs.length
  ·rw [List.getElem?_append_left hi] at hg1
   rw [List.getElem?_append_left (by omega)] at hes
   exact hk (by decide) (by decide) (h.ge i g es hg1 hes)
  ·rw [List.getElem?_append_right (by omega)] at hg1
   rw [List.getElem?_append_right (by omega)] at hes
   rw [hgl] at hg1
   cases hd:i - gl.length with
   | zero=>rw [hd] at hg1 hes; cases hg1; cases hes; exact hk (by decide) (by decide) he
   | succ d=>rw [hd] at hg1; simp at hg1
 ·have hb0:Below w.heap.size w V:=⟨hgr.os.trans h.b.os,hgr.tape.trans h.b.tape,hgr.output.trans h.b.output,Nat.le_trans h.b.size hgr.size,fun k hk'=>(hgr.block k (by omega) (fun e=>by have:=(h.g.lt _ e.symm).1; omega)).trans (h.b.block k hk')⟩
  exact hb0.setCell (p:=⟨w.heap.size + 1,0,none⟩) (show w.heap.size ≤ w.heap.size + 1 by omega) _
end Go.Proofs.YtopjoogdpjaocaaGreat
