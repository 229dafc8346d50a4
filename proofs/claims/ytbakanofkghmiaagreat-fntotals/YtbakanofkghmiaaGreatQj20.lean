/-
  The reason why a command is refused, by the program: proved by walking the function, kind by kind.
-/
import Derived.Test.YtbakanofkghmiaaGreatQj19
set_option linter.unusedVariables false
set_option maxHeartbeats 6400000
set_option maxRecDepth 100000
namespace Go.Proofs.YtbakanofkghmiaaGreat
open Go.RowKit
def DK (iv tv cv:Value) (sm:Bool) (p:Prop) (V:World):Nat→Value→Prop
 | 0,v=>v = iv
 | 1,v=>v = tv
 | 2,v=>v = cv
 | 3,v=>v = .bool sm
 | 4,v=>v = .bool (!sm)
 | _,_=>True
theorem refusal_1 (next:Int) (vb:Value) (l:List Od) (s F li L ii:Int) (pr:Nat) (O:ByteArray) (w:World) (hr:RdR Od.vs 6 w vb l) (hs:SlOk vb) (hg:GoodL l) (h0:0 ≤ next) (Q:next ≤ 1000000) (ht:O.size ≤ maxLen) :
  Calls Tryz.prog 63 #[.agg #[H next,vb],.agg (yx 1 s F li L ii pr O).toArray] w fun e w'=>e = ym (H (if aK ⟨1,s,F,li,L,0,pr,O⟩ ⟨1,s,F,li,L,ii,pr,O⟩ = true then newR next l ⟨1,s,F,li,L,ii,pr,O⟩ else 2))∧yn w w':=by
 have HR:=Y hr
 have HG:=Y hg
 have vP:=Y hs
 have uH:Hid (0 ≤ next∧next ≤ 1000000):=⟨h0,Q⟩
 have qn:=Y ht
 obtain ⟨a,A,rfl,xG,hc⟩:=hr
 clear hc hg hs h0 Q ht xG
 generalize hsm:aK ⟨1,s,F,li,L,0,pr,O⟩ ⟨1,s,F,li,L,ii,pr,O⟩ = sm
 have HSM:=Y hsm
 clear hsm
 have xC:=zh w (E #[H next,.slice a l.length A] 28)
 have ua:((w.alloc (E #[H next,.slice a l.length A] 28)).alloc (E (yx 1 s F li L ii pr O).toArray 43)).heap.size = w.heap.size + 1 + 1:=by rw [zh,xC]
 have r1:=zi w [H next,.slice a l.length A] 28
 have r2:=zi (w.alloc (E #[H next,.slice a l.length A] 28)) (yx 1 s F li L ii pr O) 43
 rw [xC] at r2
 have qe:Below (w.heap.size + 1) (w.alloc (E #[H next,.slice a l.length A] 28)) ((w.alloc (E #[H next,.slice a l.length A] 28)).alloc (E (yx 1 s F li L ii pr O).toArray 43)):=(Below.refl _ _).alloc (by rw [xC]; omega) _
 have xE:Hid (yn w ((w.alloc (E #[H next,.slice a l.length A] 28)).alloc (E (yx 1 s F li L ii pr O).toArray 43))):=(eE _ _).alloc (by rw [xC]; omega) _
 have HX:Hid (_∧_):=⟨zb r1 qe (by omega),r2⟩
 have uv:Hid (w.heap.size < ((w.alloc (E #[H next,.slice a l.length A] 28)).alloc (E (yx 1 s F li L ii pr O).toArray 43)).heap.size∧w.heap.size + 1 < ((w.alloc (E #[H next,.slice a l.length A] 28)).alloc (E (yx 1 s F li L ii pr O).toArray 43)).heap.size):=⟨by omega,by omega⟩
 clear xC ua r1 r2 qe
 go_enter Tryz.func63,Tryz.ntmps63
 refine eI fun hR xv=>?_
 go_wp2_with fail
 refine U xv _ _ ?_
 clear xv
 generalize ((w.alloc (E #[H next,.slice a l.length A] 28)).alloc (E (yx 1 s F li L ii pr O).toArray 43)) = X2 at xE HX uv ⊢
 have HX:Hid (X2.rangeAt w.heap.size 0 [H next,.slice a l.length A]∧X2.rangeAt (w.heap.size + 1) 0 (yx 1 s F li L ii pr O)):=U HX
 obtain ⟨o0,o1,o2,o3,o4,o5,o6,o7⟩:=yE (U HX).2
 go_wp2_with fail
 refine (cz ⟨1,s,F,li,L,ii,pr,O⟩ X2).mono ?_
 have jo:cmdI ⟨1,s,F,li,L,ii,pr,O⟩ = .iface 112 (.agg #[H s,H F,H li,H L,yj pr,yk O]):=by simp [cmdI,noV]
 rw [jo]
 clear jo
 rintro e w4 ⟨rfl,xD⟩
 have ud:=Y (eH (U xE) xD)
 have xO:Hid (w4.rangeAt w.heap.size 0 [H next,.slice a l.length A]∧w4.rangeAt (w.heap.size + 1) 0 (yx 1 s F li L ii pr O)∧w.heap.size < w4.heap.size∧w.heap.size + 1 < w4.heap.size):=⟨zb (U HX).1 xD (U uv).1,zb (U HX).2 xD (U uv).2,yK (U uv).1 xD.size,yK (U uv).2 xD.size⟩
 clear xD o0 o1 o2 o3 o4 o5 o6 o7
 go_wp2_with fail
 refine zj (RG w4 (fun f=>{ tmps:=#[.agg #[H next,.slice a l.length A],.agg (yx 1 s F li L ii pr O).toArray,yp w 0,I (w.heap.size + 1) 0,H 0,.iface 112 (.agg #[H s,H F,H li,H L,yj pr,yk O]),M,M,M,.agg (yx 1 s F li L ii pr O).toArray,.iface 112 (.agg #[H s,H F,H li,H L,yj pr,yk O]),.iface 112 (.agg #[H s,H F,H li,H L,yj pr,yk O]),.bool false,f 0,f 1,f 2,f 3,f 4,M,M,M,M,M,M,M,M,M,M,M,M,M,M,M,M,M,M,M,M],defers:=[] }) 99 (DK (.iface 112 (.agg #[H s,H F,H li,H L,yj pr,yk O])) (cmV ⟨1,s,F,li,L,0,pr,O⟩) (.agg (yx 1 s F li L ii pr O).toArray) sm)) (by kernel_rfl) ?_ ?_ ?_
 ·exact ⟨fun _=>M,rfl,⟨rfl,rfl,rfl,Nat.le_refl _,fun _ _=>rfl⟩,fun j R=>by rw [yJ] at R; split at R <;> simp at R⟩
 ·rintro x xn V ⟨f,rfl,xm,hD⟩ hx xN
  have xq:=zR xN hx (by kernel_rfl)
  have e4:f 4 = .bool (!sm):=hD 4 (xq 4 (by simp))
  have xw:=Y (eH (U ud) xm)
  have z0:=zb (U xO).1 xm (U xO).2.2.1 0 _ rfl
  have z1:=zb (U xO).1 xm (U xO).2.2.1 1 _ rfl
  rw [Nat.zero_add] at z0 z1
  have ta1:∀ W:World,Sem.run Tryz.prog (Instr.typeAssert (.iface 112 (.agg #[H s,H F,H li,H L,yj pr,yk O])) 109 112 true) W = .ok (.tuple #[.agg #[H s,H F,H li,H L,yj pr,yk O],.bool true]) W:=fun W=>by kernel_rfl
  simp only [e4]
  generalize f 0 = e0,f 1 = e1,f 2 = e2,f 3 = e3
  clear hD xq e4 xN hx xm f x
  cases sm
  ·go_wp2_with fail
   go_ret
   exact ⟨rfl,U xw⟩
  ·have xL:w.heap.size < V.heap.size:=yL V (yq w 0) z0
   have y0:World.cell? (V.alloc (E #[H s,H F,H li,H L,yj pr,yk O] 112)) (yq w 0) = some (H next):=(yW _ _ _ xL).trans z0
   have y1:World.cell? (V.alloc (E #[H s,H F,H li,H L,yj pr,yk O] 112)) (yq w 1) = some (.slice a l.length A):=(yW _ _ _ xL).trans z1
   have qm:Hid (yn w (V.alloc (E #[H s,H F,H li,H L,yj pr,yk O] 112))):=(U xw).alloc (U xw).size _
   clear z0 z1 xL
   have hsf:=sfl
   go_wp2_with fail
   refine (newRefusal_any next _ l ⟨1,s,F,li,L,ii,pr,O⟩ _ (zn (U HR) (U qm) tg) (U vP) (U HG) (U uH).1 (U uH).2 (U qn)).mono ?_
   rintro e w7 ⟨rfl,jn⟩
   have jK:=Y (eH (U qm) jn)
   clear jn
   go_wp2_with fail
   go_ret
   exact ⟨rfl,U jK⟩
 ·rintro x xn V i op ⟨f,rfl,xm,hD⟩ xp hx Z xz D
  clear xp
  have xw:=Y xm
  have HD:=Y hD
  have u0:=zb (U xO).2.1 xm (U xO).2.2.2 0 _ rfl
  have u1:=zb (U xO).2.1 xm (U xO).2.2.2 1 _ rfl
  have u2:=zb (U xO).2.1 xm (U xO).2.2.2 2 _ rfl
  have u3:=zb (U xO).2.1 xm (U xO).2.2.2 3 _ rfl
  have u4:=zb (U xO).2.1 xm (U xO).2.2.2 4 _ rfl
  have u5:=zb (U xO).2.1 xm (U xO).2.2.2 5 _ rfl
  have u6:=zb (U xO).2.1 xm (U xO).2.2.2 6 _ rfl
  have u7:=zb (U xO).2.1 xm (U xO).2.2.2 7 _ rfl
  rw [Nat.zero_add] at u0 u1 u2 u3 u4 u5 u6 u7
  match i,Z with
  | 0,Z =>
   obtain rfl:=ya Z
   clear D hD xm
   rw [if_pos (by rfl)];unfold Oper.wp;go_simp
   exact ⟨upd f 0 (.iface 112 (.agg #[H s,H F,H li,H L,yj pr,yk O])),by simp [upd],zf (U xw) (U HD) (by decide) rfl⟩
  | 1,Z =>
   obtain rfl:=ya Z
   have g:f 0 = .iface 112 (.agg #[H s,H F,H li,H L,yj pr,yk O]):=hD 0 (ye D 0 rfl)
   have hm:∀ W:World,Sem.run Tryz.prog (method 322 112 (.agg #[H s,H F,H li,H L,yj pr,yk O]) "loop.example/g00092/impl.told") W = .ok (113,.agg #[H s,H F,H li,H L,yj pr,yk O]) W:=fun W=>by kernel_rfl
   clear D hD xm
   rw [if_pos (by rfl)];unfold Oper.wp;go_simp
   refine (toldNew_any ⟨1,s,F,li,L,ii,pr,O⟩ V).mono ?_
   rintro e w4 ⟨rfl,xD⟩
   exact ⟨upd f 1 (cmV ⟨1,s,F,li,L,0,pr,O⟩),by simp [upd,g]; rfl,bc (U xw) (U HD) xD (by decide) (fun j v h=>h) rfl⟩
  | 2,Z =>
   obtain rfl:=ya Z
   clear D hD xm
   rw [if_pos (by rfl)];unfold Oper.wp;go_simp
   exact ⟨upd f 2 (.agg (yx 1 s F li L ii pr O).toArray),by simp [upd],zf (U xw) (U HD) (by decide) rfl⟩
  | 3,Z =>
   obtain rfl:=ya Z
   have g1:f 1 = cmV ⟨1,s,F,li,L,0,pr,O⟩:=hD 1 (ye D 1 rfl)
   have g2:f 2 = .agg (yx 1 s F li L ii pr O).toArray:=hD 2 (ye D 2 rfl)
   clear D hD xm
   rw [if_pos (by rfl)];unfold Oper.wp;go_simp
   refine (dV ⟨1,s,F,li,L,0,pr,O⟩ ⟨1,s,F,li,L,ii,pr,O⟩ V).mono ?_
   rw [U HSM]
   rintro e w4 ⟨rfl,xD⟩
   exact ⟨upd f 3 (.bool sm),by simp [upd,g1,g2],bc (U xw) (U HD) xD (by decide) (fun j v h=>h) rfl⟩
  | 4,Z =>
   obtain rfl:=ya Z
   have g:f 3 = .bool sm:=hD 3 (ye D 3 rfl)
   clear D hD xm
   rw [if_pos (by rfl)];unfold Oper.wp;go_simp
   exact ⟨upd f 4 (.bool (!sm)),by simp [upd,g],zf (U xw) (U HD) (by decide) rfl⟩
  | n + 5,Z=>simp at Z
theorem refusal_2 (next:Int) (vb:Value) (l:List Od) (s F li L ii:Int) (pr:Nat) (O:ByteArray) (w:World) (hr:RdR Od.vs 6 w vb l) (hs:SlOk vb) (hg:GoodL l) (h0:0 ≤ next) (Q:next ≤ 1000000) (ht:O.size ≤ maxLen) :
  Calls Tryz.prog 63 #[.agg #[H next,vb],.agg (yx 2 s F li L ii pr O).toArray] w fun e w'=>e = ym (H (if aK ⟨2,0,0,0,0,ii,0,⟨#[]⟩⟩ ⟨2,s,F,li,L,ii,pr,O⟩ = true then idR l ii else 2))∧yn w w':=by
 have HR:=Y hr
 have HG:=Y hg
 have vP:=Y hs
 have uH:Hid (0 ≤ next∧next ≤ 1000000):=⟨h0,Q⟩
 have qn:=Y ht
 obtain ⟨a,A,rfl,xG,hc⟩:=hr
 clear hc hg hs h0 Q ht xG
 generalize hsm:aK ⟨2,0,0,0,0,ii,0,⟨#[]⟩⟩ ⟨2,s,F,li,L,ii,pr,O⟩ = sm
 have HSM:=Y hsm
 clear hsm
 have xC:=zh w (E #[H next,.slice a l.length A] 28)
 have ua:((w.alloc (E #[H next,.slice a l.length A] 28)).alloc (E (yx 2 s F li L ii pr O).toArray 43)).heap.size = w.heap.size + 1 + 1:=by rw [zh,xC]
 have r1:=zi w [H next,.slice a l.length A] 28
 have r2:=zi (w.alloc (E #[H next,.slice a l.length A] 28)) (yx 2 s F li L ii pr O) 43
 rw [xC] at r2
 have qe:Below (w.heap.size + 1) (w.alloc (E #[H next,.slice a l.length A] 28)) ((w.alloc (E #[H next,.slice a l.length A] 28)).alloc (E (yx 2 s F li L ii pr O).toArray 43)):=(Below.refl _ _).alloc (by rw [xC]; omega) _
 have xE:Hid (yn w ((w.alloc (E #[H next,.slice a l.length A] 28)).alloc (E (yx 2 s F li L ii pr O).toArray 43))):=(eE _ _).alloc (by rw [xC]; omega) _
 have HX:Hid (_∧_):=⟨zb r1 qe (by omega),r2⟩
 have uv:Hid (w.heap.size < ((w.alloc (E #[H next,.slice a l.length A] 28)).alloc (E (yx 2 s F li L ii pr O).toArray 43)).heap.size∧w.heap.size + 1 < ((w.alloc (E #[H next,.slice a l.length A] 28)).alloc (E (yx 2 s F li L ii pr O).toArray 43)).heap.size):=⟨by omega,by omega⟩
 clear xC ua r1 r2 qe
 go_enter Tryz.func63,Tryz.ntmps63
 refine eI fun hR xv=>?_
 go_wp2_with fail
 refine U xv _ _ ?_
 clear xv
 generalize ((w.alloc (E #[H next,.slice a l.length A] 28)).alloc (E (yx 2 s F li L ii pr O).toArray 43)) = X2 at xE HX uv ⊢
 have HX:Hid (X2.rangeAt w.heap.size 0 [H next,.slice a l.length A]∧X2.rangeAt (w.heap.size + 1) 0 (yx 2 s F li L ii pr O)):=U HX
 obtain ⟨o0,o1,o2,o3,o4,o5,o6,o7⟩:=yE (U HX).2
 go_wp2_with fail
 refine (cz ⟨2,s,F,li,L,ii,pr,O⟩ X2).mono ?_
 have jo:cmdI ⟨2,s,F,li,L,ii,pr,O⟩ = .iface 115 (.agg #[H ii]):=by simp [cmdI]
 rw [jo]
 clear jo
 rintro e w4 ⟨rfl,xD⟩
 have ud:=Y (eH (U xE) xD)
 have xO:Hid (w4.rangeAt w.heap.size 0 [H next,.slice a l.length A]∧w4.rangeAt (w.heap.size + 1) 0 (yx 2 s F li L ii pr O)∧w.heap.size < w4.heap.size∧w.heap.size + 1 < w4.heap.size):=⟨zb (U HX).1 xD (U uv).1,zb (U HX).2 xD (U uv).2,yK (U uv).1 xD.size,yK (U uv).2 xD.size⟩
 clear xD o0 o1 o2 o3 o4 o5 o6 o7
 go_wp2_with fail
 refine zj (RG w4 (fun f=>{ tmps:=#[.agg #[H next,.slice a l.length A],.agg (yx 2 s F li L ii pr O).toArray,yp w 0,I (w.heap.size + 1) 0,H 0,.iface 115 (.agg #[H ii]),M,M,M,.agg (yx 2 s F li L ii pr O).toArray,.iface 115 (.agg #[H ii]),.iface 115 (.agg #[H ii]),.bool false,f 0,f 1,f 2,f 3,f 4,M,M,M,M,M,M,M,M,M,M,M,M,M,M,M,M,M,M,M,M],defers:=[] }) 99 (DK (.iface 115 (.agg #[H ii])) (cmV ⟨2,0,0,0,0,ii,0,⟨#[]⟩⟩) (.agg (yx 2 s F li L ii pr O).toArray) sm)) (by kernel_rfl) ?_ ?_ ?_
 ·exact ⟨fun _=>M,rfl,⟨rfl,rfl,rfl,Nat.le_refl _,fun _ _=>rfl⟩,fun j R=>by rw [yJ] at R; split at R <;> simp at R⟩
 ·rintro x xn V ⟨f,rfl,xm,hD⟩ hx xN
  have xq:=zR xN hx (by kernel_rfl)
  have e4:f 4 = .bool (!sm):=hD 4 (xq 4 (by simp))
  have xw:=Y (eH (U ud) xm)
  have z0:=zb (U xO).1 xm (U xO).2.2.1 0 _ rfl
  have z1:=zb (U xO).1 xm (U xO).2.2.1 1 _ rfl
  rw [Nat.zero_add] at z0 z1
  have ta1:∀ W:World,Sem.run Tryz.prog (Instr.typeAssert (.iface 115 (.agg #[H ii])) 109 112 true) W = .ok (.tuple #[.agg #[H 0,H 0,H 0,H 0,yj 0,yk ⟨#[]⟩],.bool false]) W:=fun W=>by kernel_rfl
  have ta2:∀ W:World,Sem.run Tryz.prog (Instr.typeAssert (.iface 115 (.agg #[H ii])) 109 115 true) W = .ok (.tuple #[.agg #[H ii],.bool true]) W:=fun W=>by kernel_rfl
  simp only [e4]
  generalize f 0 = e0,f 1 = e1,f 2 = e2,f 3 = e3
  clear hD xq e4 xN hx xm f x
  cases sm
  ·go_wp2_with fail
   go_ret
   exact ⟨rfl,U xw⟩
  ·have xL:w.heap.size < V.heap.size:=yL V (yq w 0) z0
   have y0:World.cell? (V.alloc (E #[H ii] 115)) (yq w 0) = some (H next):=(yW _ _ _ xL).trans z0
   have y1:World.cell? (V.alloc (E #[H ii] 115)) (yq w 1) = some (.slice a l.length A):=(yW _ _ _ xL).trans z1
   have qm:Hid (yn w (V.alloc (E #[H ii] 115))):=(U xw).alloc (U xw).size _
   clear z0 z1 xL
   go_wp2_with fail
   refine (idRefusal_any next _ l ii _ (zn (U HR) (U qm) tg)).mono ?_
   rintro e w7 ⟨rfl,jn⟩
   have jK:=Y (eH (U qm) jn)
   clear jn
   go_wp2_with fail
   go_ret
   exact ⟨rfl,U jK⟩
 ·rintro x xn V i op ⟨f,rfl,xm,hD⟩ xp hx Z xz D
  clear xp
  have xw:=Y xm
  have HD:=Y hD
  have u0:=zb (U xO).2.1 xm (U xO).2.2.2 0 _ rfl
  have u1:=zb (U xO).2.1 xm (U xO).2.2.2 1 _ rfl
  have u2:=zb (U xO).2.1 xm (U xO).2.2.2 2 _ rfl
  have u3:=zb (U xO).2.1 xm (U xO).2.2.2 3 _ rfl
  have u4:=zb (U xO).2.1 xm (U xO).2.2.2 4 _ rfl
  have u5:=zb (U xO).2.1 xm (U xO).2.2.2 5 _ rfl
  have u6:=zb (U xO).2.1 xm (U xO).2.2.2 6 _ rfl
  have u7:=zb (U xO).2.1 xm (U xO).2.2.2 7 _ rfl
  rw [Nat.zero_add] at u0 u1 u2 u3 u4 u5 u6 u7
  match i,Z with
  | 0,Z =>
   obtain rfl:=ya Z
   clear D hD xm
   rw [if_pos (by rfl)];unfold Oper.wp;go_simp
   exact ⟨upd f 0 (.iface 115 (.agg #[H ii])),by simp [upd],zf (U xw) (U HD) (by decide) rfl⟩
  | 1,Z =>
   obtain rfl:=ya Z
   have g:f 0 = .iface 115 (.agg #[H ii]):=hD 0 (ye D 0 rfl)
   have hm:∀ W:World,Sem.run Tryz.prog (method 322 115 (.agg #[H ii]) "loop.example/g00092/impl.told") W = .ok (185,.agg #[H ii]) W:=fun W=>by kernel_rfl
   clear D hD xm
   rw [if_pos (by rfl)];unfold Oper.wp;go_simp
   refine (toldCancel_any ii V).mono ?_
   rintro e w4 ⟨rfl,xD⟩
   exact ⟨upd f 1 (cmV ⟨2,0,0,0,0,ii,0,⟨#[]⟩⟩),by simp [upd,g]; rfl,bc (U xw) (U HD) xD (by decide) (fun j v h=>h) rfl⟩
  | 2,Z =>
   obtain rfl:=ya Z
   clear D hD xm
   rw [if_pos (by rfl)];unfold Oper.wp;go_simp
   exact ⟨upd f 2 (.agg (yx 2 s F li L ii pr O).toArray),by simp [upd],zf (U xw) (U HD) (by decide) rfl⟩
  | 3,Z =>
   obtain rfl:=ya Z
   have g1:f 1 = cmV ⟨2,0,0,0,0,ii,0,⟨#[]⟩⟩:=hD 1 (ye D 1 rfl)
   have g2:f 2 = .agg (yx 2 s F li L ii pr O).toArray:=hD 2 (ye D 2 rfl)
   clear D hD xm
   rw [if_pos (by rfl)];unfold Oper.wp;go_simp
   refine (dV ⟨2,0,0,0,0,ii,0,⟨#[]⟩⟩ ⟨2,s,F,li,L,ii,pr,O⟩ V).mono ?_
   rw [U HSM]
   rintro e w4 ⟨rfl,xD⟩
   exact ⟨upd f 3 (.bool sm),by simp [upd,g1,g2],bc (U xw) (U HD) xD (by decide) (fun j v h=>h) rfl⟩
  | 4,Z =>
   obtain rfl:=ya Z
   have g:f 3 = .bool sm:=hD 3 (ye D 3 rfl)
   clear D hD xm
   rw [if_pos (by rfl)];unfold Oper.wp;go_simp
   exact ⟨upd f 4 (.bool (!sm)),by simp [upd,g],zf (U xw) (U HD) (by decide) rfl⟩
  | n + 5,Z=>simp at Z
theorem refusal_3 (next:Int) (vb:Value) (l:List Od) (s F li L ii:Int) (pr:Nat) (O:ByteArray) (w:World) (hr:RdR Od.vs 6 w vb l) (hs:SlOk vb) (hg:GoodL l) (h0:0 ≤ next) (Q:next ≤ 1000000) (ht:O.size ≤ maxLen) :
  Calls Tryz.prog 63 #[.agg #[H next,vb],.agg (yx 3 s F li L ii pr O).toArray] w fun e w'=>e = ym (H (if aK ⟨3,0,0,0,L,ii,0,⟨#[]⟩⟩ ⟨3,s,F,li,L,ii,pr,O⟩ = true then redR l ii L else 2))∧yn w w':=by
 have HR:=Y hr
 have HG:=Y hg
 have vP:=Y hs
 have uH:Hid (0 ≤ next∧next ≤ 1000000):=⟨h0,Q⟩
 have qn:=Y ht
 obtain ⟨a,A,rfl,xG,hc⟩:=hr
 clear hc hg hs h0 Q ht xG
 generalize hsm:aK ⟨3,0,0,0,L,ii,0,⟨#[]⟩⟩ ⟨3,s,F,li,L,ii,pr,O⟩ = sm
 have HSM:=Y hsm
 clear hsm
 have xC:=zh w (E #[H next,.slice a l.length A] 28)
 have ua:((w.alloc (E #[H next,.slice a l.length A] 28)).alloc (E (yx 3 s F li L ii pr O).toArray 43)).heap.size = w.heap.size + 1 + 1:=by rw [zh,xC]
 have r1:=zi w [H next,.slice a l.length A] 28
 have r2:=zi (w.alloc (E #[H next,.slice a l.length A] 28)) (yx 3 s F li L ii pr O) 43
 rw [xC] at r2
 have qe:Below (w.heap.size + 1) (w.alloc (E #[H next,.slice a l.length A] 28)) ((w.alloc (E #[H next,.slice a l.length A] 28)).alloc (E (yx 3 s F li L ii pr O).toArray 43)):=(Below.refl _ _).alloc (by rw [xC]; omega) _
 have xE:Hid (yn w ((w.alloc (E #[H next,.slice a l.length A] 28)).alloc (E (yx 3 s F li L ii pr O).toArray 43))):=(eE _ _).alloc (by rw [xC]; omega) _
 have HX:Hid (_∧_):=⟨zb r1 qe (by omega),r2⟩
 have uv:Hid (w.heap.size < ((w.alloc (E #[H next,.slice a l.length A] 28)).alloc (E (yx 3 s F li L ii pr O).toArray 43)).heap.size∧w.heap.size + 1 < ((w.alloc (E #[H next,.slice a l.length A] 28)).alloc (E (yx 3 s F li L ii pr O).toArray 43)).heap.size):=⟨by omega,by omega⟩
 clear xC ua r1 r2 qe
 go_enter Tryz.func63,Tryz.ntmps63
 refine eI fun hR xv=>?_
 go_wp2_with fail
 refine U xv _ _ ?_
 clear xv
 generalize ((w.alloc (E #[H next,.slice a l.length A] 28)).alloc (E (yx 3 s F li L ii pr O).toArray 43)) = X2 at xE HX uv ⊢
 have HX:Hid (X2.rangeAt w.heap.size 0 [H next,.slice a l.length A]∧X2.rangeAt (w.heap.size + 1) 0 (yx 3 s F li L ii pr O)):=U HX
 obtain ⟨o0,o1,o2,o3,o4,o5,o6,o7⟩:=yE (U HX).2
 go_wp2_with fail
 refine (cz ⟨3,s,F,li,L,ii,pr,O⟩ X2).mono ?_
 have jo:cmdI ⟨3,s,F,li,L,ii,pr,O⟩ = .iface 118 (.agg #[H ii,H L]):=by simp [cmdI]
 rw [jo]
 clear jo
 rintro e w4 ⟨rfl,xD⟩
 have ud:=Y (eH (U xE) xD)
 have xO:Hid (w4.rangeAt w.heap.size 0 [H next,.slice a l.length A]∧w4.rangeAt (w.heap.size + 1) 0 (yx 3 s F li L ii pr O)∧w.heap.size < w4.heap.size∧w.heap.size + 1 < w4.heap.size):=⟨zb (U HX).1 xD (U uv).1,zb (U HX).2 xD (U uv).2,yK (U uv).1 xD.size,yK (U uv).2 xD.size⟩
 clear xD o0 o1 o2 o3 o4 o5 o6 o7
 go_wp2_with fail
 refine zj (RG w4 (fun f=>{ tmps:=#[.agg #[H next,.slice a l.length A],.agg (yx 3 s F li L ii pr O).toArray,yp w 0,I (w.heap.size + 1) 0,H 0,.iface 118 (.agg #[H ii,H L]),M,M,M,.agg (yx 3 s F li L ii pr O).toArray,.iface 118 (.agg #[H ii,H L]),.iface 118 (.agg #[H ii,H L]),.bool false,f 0,f 1,f 2,f 3,f 4,M,M,M,M,M,M,M,M,M,M,M,M,M,M,M,M,M,M,M,M],defers:=[] }) 99 (DK (.iface 118 (.agg #[H ii,H L])) (cmV ⟨3,0,0,0,L,ii,0,⟨#[]⟩⟩) (.agg (yx 3 s F li L ii pr O).toArray) sm)) (by kernel_rfl) ?_ ?_ ?_
 ·exact ⟨fun _=>M,rfl,⟨rfl,rfl,rfl,Nat.le_refl _,fun _ _=>rfl⟩,fun j R=>by rw [yJ] at R; split at R <;> simp at R⟩
 ·rintro x xn V ⟨f,rfl,xm,hD⟩ hx xN
  have xq:=zR xN hx (by kernel_rfl)
  have e4:f 4 = .bool (!sm):=hD 4 (xq 4 (by simp))
  have xw:=Y (eH (U ud) xm)
  have z0:=zb (U xO).1 xm (U xO).2.2.1 0 _ rfl
  have z1:=zb (U xO).1 xm (U xO).2.2.1 1 _ rfl
  rw [Nat.zero_add] at z0 z1
  have ta1:∀ W:World,Sem.run Tryz.prog (Instr.typeAssert (.iface 118 (.agg #[H ii,H L])) 109 112 true) W = .ok (.tuple #[.agg #[H 0,H 0,H 0,H 0,yj 0,yk ⟨#[]⟩],.bool false]) W:=fun W=>by kernel_rfl
  have ta2:∀ W:World,Sem.run Tryz.prog (Instr.typeAssert (.iface 118 (.agg #[H ii,H L])) 109 115 true) W = .ok (.tuple #[.agg #[H 0],.bool false]) W:=fun W=>by kernel_rfl
  have ta3:∀ W:World,Sem.run Tryz.prog (Instr.typeAssert (.iface 118 (.agg #[H ii,H L])) 109 118 true) W = .ok (.tuple #[.agg #[H ii,H L],.bool true]) W:=fun W=>by kernel_rfl
  simp only [e4]
  generalize f 0 = e0,f 1 = e1,f 2 = e2,f 3 = e3
  clear hD xq e4 xN hx xm f x
  cases sm
  ·go_wp2_with fail
   go_ret
   exact ⟨rfl,U xw⟩
  ·have xL:w.heap.size < V.heap.size:=yL V (yq w 0) z0
   have y0:World.cell? (V.alloc (E #[H ii,H L] 118)) (yq w 0) = some (H next):=(yW _ _ _ xL).trans z0
   have y1:World.cell? (V.alloc (E #[H ii,H L] 118)) (yq w 1) = some (.slice a l.length A):=(yW _ _ _ xL).trans z1
   have qm:Hid (yn w (V.alloc (E #[H ii,H L] 118))):=(U xw).alloc (U xw).size _
   clear z0 z1 xL
   go_wp2_with fail
   refine (reduceRefusal_any next _ l ii L _ (zn (U HR) (U qm) tg)).mono ?_
   rintro e w7 ⟨rfl,jn⟩
   have jK:=Y (eH (U qm) jn)
   clear jn
   go_wp2_with fail
   go_ret
   exact ⟨rfl,U jK⟩
 ·rintro x xn V i op ⟨f,rfl,xm,hD⟩ xp hx Z xz D
  clear xp
  have xw:=Y xm
  have HD:=Y hD
  have u0:=zb (U xO).2.1 xm (U xO).2.2.2 0 _ rfl
  have u1:=zb (U xO).2.1 xm (U xO).2.2.2 1 _ rfl
  have u2:=zb (U xO).2.1 xm (U xO).2.2.2 2 _ rfl
  have u3:=zb (U xO).2.1 xm (U xO).2.2.2 3 _ rfl
  have u4:=zb (U xO).2.1 xm (U xO).2.2.2 4 _ rfl
  have u5:=zb (U xO).2.1 xm (U xO).2.2.2 5 _ rfl
  have u6:=zb (U xO).2.1 xm (U xO).2.2.2 6 _ rfl
  have u7:=zb (U xO).2.1 xm (U xO).2.2.2 7 _ rfl
  rw [Nat.zero_add] at u0 u1 u2 u3 u4 u5 u6 u7
  match i,Z with
  | 0,Z =>
   obtain rfl:=ya Z
   clear D hD xm
   rw [if_pos (by rfl)];unfold Oper.wp;go_simp
   exact ⟨upd f 0 (.iface 118 (.agg #[H ii,H L])),by simp [upd],zf (U xw) (U HD) (by decide) rfl⟩
  | 1,Z =>
   obtain rfl:=ya Z
   have g:f 0 = .iface 118 (.agg #[H ii,H L]):=hD 0 (ye D 0 rfl)
   have hm:∀ W:World,Sem.run Tryz.prog (method 322 118 (.agg #[H ii,H L]) "loop.example/g00092/impl.told") W = .ok (186,.agg #[H ii,H L]) W:=fun W=>by kernel_rfl
   clear D hD xm
   rw [if_pos (by rfl)];unfold Oper.wp;go_simp
   refine (toldReduce_any ii L V).mono ?_
   rintro e w4 ⟨rfl,xD⟩
   exact ⟨upd f 1 (cmV ⟨3,0,0,0,L,ii,0,⟨#[]⟩⟩),by simp [upd,g]; rfl,bc (U xw) (U HD) xD (by decide) (fun j v h=>h) rfl⟩
  | 2,Z =>
   obtain rfl:=ya Z
   clear D hD xm
   rw [if_pos (by rfl)];unfold Oper.wp;go_simp
   exact ⟨upd f 2 (.agg (yx 3 s F li L ii pr O).toArray),by simp [upd],zf (U xw) (U HD) (by decide) rfl⟩
  | 3,Z =>
   obtain rfl:=ya Z
   have g1:f 1 = cmV ⟨3,0,0,0,L,ii,0,⟨#[]⟩⟩:=hD 1 (ye D 1 rfl)
   have g2:f 2 = .agg (yx 3 s F li L ii pr O).toArray:=hD 2 (ye D 2 rfl)
   clear D hD xm
   rw [if_pos (by rfl)];unfold Oper.wp;go_simp
   refine (dV ⟨3,0,0,0,L,ii,0,⟨#[]⟩⟩ ⟨3,s,F,li,L,ii,pr,O⟩ V).mono ?_
   rw [U HSM]
   rintro e w4 ⟨rfl,xD⟩
   exact ⟨upd f 3 (.bool sm),by simp [upd,g1,g2],bc (U xw) (U HD) xD (by decide) (fun j v h=>h) rfl⟩
  | 4,Z =>
   obtain rfl:=ya Z
   have g:f 3 = .bool sm:=hD 3 (ye D 3 rfl)
   clear D hD xm
   rw [if_pos (by rfl)];unfold Oper.wp;go_simp
   exact ⟨upd f 4 (.bool (!sm)),by simp [upd,g],zf (U xw) (U HD) (by decide) rfl⟩
  | n + 5,Z=>simp at Z
theorem refusal_4 (next:Int) (vb:Value) (l:List Od) (s F li L ii:Int) (pr:Nat) (O:ByteArray) (w:World) (hr:RdR Od.vs 6 w vb l) (hs:SlOk vb) (hg:GoodL l) (h0:0 ≤ next) (Q:next ≤ 1000000) (ht:O.size ≤ maxLen) :
  Calls Tryz.prog 63 #[.agg #[H next,vb],.agg (yx 4 s F li L ii pr O).toArray] w fun e w'=>e = ym (H (if aK ⟨4,0,0,0,0,0,0,⟨#[]⟩⟩ ⟨4,s,F,li,L,ii,pr,O⟩ = true then 0 else 2))∧yn w w':=by
 have HR:=Y hr
 have HG:=Y hg
 have vP:=Y hs
 have uH:Hid (0 ≤ next∧next ≤ 1000000):=⟨h0,Q⟩
 have qn:=Y ht
 obtain ⟨a,A,rfl,xG,hc⟩:=hr
 clear hc hg hs h0 Q ht xG
 generalize hsm:aK ⟨4,0,0,0,0,0,0,⟨#[]⟩⟩ ⟨4,s,F,li,L,ii,pr,O⟩ = sm
 have HSM:=Y hsm
 clear hsm
 have xC:=zh w (E #[H next,.slice a l.length A] 28)
 have ua:((w.alloc (E #[H next,.slice a l.length A] 28)).alloc (E (yx 4 s F li L ii pr O).toArray 43)).heap.size = w.heap.size + 1 + 1:=by rw [zh,xC]
 have r1:=zi w [H next,.slice a l.length A] 28
 have r2:=zi (w.alloc (E #[H next,.slice a l.length A] 28)) (yx 4 s F li L ii pr O) 43
 rw [xC] at r2
 have qe:Below (w.heap.size + 1) (w.alloc (E #[H next,.slice a l.length A] 28)) ((w.alloc (E #[H next,.slice a l.length A] 28)).alloc (E (yx 4 s F li L ii pr O).toArray 43)):=(Below.refl _ _).alloc (by rw [xC]; omega) _
 have xE:Hid (yn w ((w.alloc (E #[H next,.slice a l.length A] 28)).alloc (E (yx 4 s F li L ii pr O).toArray 43))):=(eE _ _).alloc (by rw [xC]; omega) _
 have HX:Hid (_∧_):=⟨zb r1 qe (by omega),r2⟩
 have uv:Hid (w.heap.size < ((w.alloc (E #[H next,.slice a l.length A] 28)).alloc (E (yx 4 s F li L ii pr O).toArray 43)).heap.size∧w.heap.size + 1 < ((w.alloc (E #[H next,.slice a l.length A] 28)).alloc (E (yx 4 s F li L ii pr O).toArray 43)).heap.size):=⟨by omega,by omega⟩
 clear xC ua r1 r2 qe
 go_enter Tryz.func63,Tryz.ntmps63
 refine eI fun hR xv=>?_
 go_wp2_with fail
 refine U xv _ _ ?_
 clear xv
 generalize ((w.alloc (E #[H next,.slice a l.length A] 28)).alloc (E (yx 4 s F li L ii pr O).toArray 43)) = X2 at xE HX uv ⊢
 have HX:Hid (X2.rangeAt w.heap.size 0 [H next,.slice a l.length A]∧X2.rangeAt (w.heap.size + 1) 0 (yx 4 s F li L ii pr O)):=U HX
 obtain ⟨o0,o1,o2,o3,o4,o5,o6,o7⟩:=yE (U HX).2
 go_wp2_with fail
 refine (cz ⟨4,s,F,li,L,ii,pr,O⟩ X2).mono ?_
 have jo:cmdI ⟨4,s,F,li,L,ii,pr,O⟩ = .iface 121 (.agg #[]):=by simp [cmdI]
 rw [jo]
 clear jo
 rintro e w4 ⟨rfl,xD⟩
 have ud:=Y (eH (U xE) xD)
 have xO:Hid (w4.rangeAt w.heap.size 0 [H next,.slice a l.length A]∧w4.rangeAt (w.heap.size + 1) 0 (yx 4 s F li L ii pr O)∧w.heap.size < w4.heap.size∧w.heap.size + 1 < w4.heap.size):=⟨zb (U HX).1 xD (U uv).1,zb (U HX).2 xD (U uv).2,yK (U uv).1 xD.size,yK (U uv).2 xD.size⟩
 clear xD o0 o1 o2 o3 o4 o5 o6 o7
 go_wp2_with fail
 refine zj (RG w4 (fun f=>{ tmps:=#[.agg #[H next,.slice a l.length A],.agg (yx 4 s F li L ii pr O).toArray,yp w 0,I (w.heap.size + 1) 0,H 0,.iface 121 (.agg #[]),M,M,M,.agg (yx 4 s F li L ii pr O).toArray,.iface 121 (.agg #[]),.iface 121 (.agg #[]),.bool false,f 0,f 1,f 2,f 3,f 4,M,M,M,M,M,M,M,M,M,M,M,M,M,M,M,M,M,M,M,M],defers:=[] }) 99 (DK (.iface 121 (.agg #[])) (cmV ⟨4,0,0,0,0,0,0,⟨#[]⟩⟩) (.agg (yx 4 s F li L ii pr O).toArray) sm)) (by kernel_rfl) ?_ ?_ ?_
 ·exact ⟨fun _=>M,rfl,⟨rfl,rfl,rfl,Nat.le_refl _,fun _ _=>rfl⟩,fun j R=>by rw [yJ] at R; split at R <;> simp at R⟩
 ·rintro x xn V ⟨f,rfl,xm,hD⟩ hx xN
  have xq:=zR xN hx (by kernel_rfl)
  have e4:f 4 = .bool (!sm):=hD 4 (xq 4 (by simp))
  have xw:=Y (eH (U ud) xm)
  have z0:=zb (U xO).1 xm (U xO).2.2.1 0 _ rfl
  have z1:=zb (U xO).1 xm (U xO).2.2.1 1 _ rfl
  rw [Nat.zero_add] at z0 z1
  have ta1:∀ W:World,Sem.run Tryz.prog (Instr.typeAssert (.iface 121 (.agg #[])) 109 112 true) W = .ok (.tuple #[.agg #[H 0,H 0,H 0,H 0,yj 0,yk ⟨#[]⟩],.bool false]) W:=fun W=>by kernel_rfl
  have ta2:∀ W:World,Sem.run Tryz.prog (Instr.typeAssert (.iface 121 (.agg #[])) 109 115 true) W = .ok (.tuple #[.agg #[H 0],.bool false]) W:=fun W=>by kernel_rfl
  have ta3:∀ W:World,Sem.run Tryz.prog (Instr.typeAssert (.iface 121 (.agg #[])) 109 118 true) W = .ok (.tuple #[.agg #[H 0,H 0],.bool false]) W:=fun W=>by kernel_rfl
  simp only [e4]
  generalize f 0 = e0,f 1 = e1,f 2 = e2,f 3 = e3
  clear hD xq e4 xN hx xm f x
  cases sm
  ·go_wp2_with fail
   go_ret
   exact ⟨rfl,U xw⟩
  ·go_wp2_with fail
   go_ret
   exact ⟨rfl,U xw⟩
 ·rintro x xn V i op ⟨f,rfl,xm,hD⟩ xp hx Z xz D
  clear xp
  have xw:=Y xm
  have HD:=Y hD
  have u0:=zb (U xO).2.1 xm (U xO).2.2.2 0 _ rfl
  have u1:=zb (U xO).2.1 xm (U xO).2.2.2 1 _ rfl
  have u2:=zb (U xO).2.1 xm (U xO).2.2.2 2 _ rfl
  have u3:=zb (U xO).2.1 xm (U xO).2.2.2 3 _ rfl
  have u4:=zb (U xO).2.1 xm (U xO).2.2.2 4 _ rfl
  have u5:=zb (U xO).2.1 xm (U xO).2.2.2 5 _ rfl
  have u6:=zb (U xO).2.1 xm (U xO).2.2.2 6 _ rfl
  have u7:=zb (U xO).2.1 xm (U xO).2.2.2 7 _ rfl
  rw [Nat.zero_add] at u0 u1 u2 u3 u4 u5 u6 u7
  match i,Z with
  | 0,Z =>
   obtain rfl:=ya Z
   clear D hD xm
   rw [if_pos (by rfl)];unfold Oper.wp;go_simp
   exact ⟨upd f 0 (.iface 121 (.agg #[])),by simp [upd],zf (U xw) (U HD) (by decide) rfl⟩
  | 1,Z =>
   obtain rfl:=ya Z
   have g:f 0 = .iface 121 (.agg #[]):=hD 0 (ye D 0 rfl)
   have hm:∀ W:World,Sem.run Tryz.prog (method 322 121 (.agg #[]) "loop.example/g00092/impl.told") W = .ok (187,.agg #[]) W:=fun W=>by kernel_rfl
   clear D hD xm
   rw [if_pos (by rfl)];unfold Oper.wp;go_simp
   refine (toldDay_any V).mono ?_
   rintro e w4 ⟨rfl,xD⟩
   exact ⟨upd f 1 (cmV ⟨4,0,0,0,0,0,0,⟨#[]⟩⟩),by simp [upd,g]; rfl,bc (U xw) (U HD) xD (by decide) (fun j v h=>h) rfl⟩
  | 2,Z =>
   obtain rfl:=ya Z
   clear D hD xm
   rw [if_pos (by rfl)];unfold Oper.wp;go_simp
   exact ⟨upd f 2 (.agg (yx 4 s F li L ii pr O).toArray),by simp [upd],zf (U xw) (U HD) (by decide) rfl⟩
  | 3,Z =>
   obtain rfl:=ya Z
   have g1:f 1 = cmV ⟨4,0,0,0,0,0,0,⟨#[]⟩⟩:=hD 1 (ye D 1 rfl)
   have g2:f 2 = .agg (yx 4 s F li L ii pr O).toArray:=hD 2 (ye D 2 rfl)
   clear D hD xm
   rw [if_pos (by rfl)];unfold Oper.wp;go_simp
   refine (dV ⟨4,0,0,0,0,0,0,⟨#[]⟩⟩ ⟨4,s,F,li,L,ii,pr,O⟩ V).mono ?_
   rw [U HSM]
   rintro e w4 ⟨rfl,xD⟩
   exact ⟨upd f 3 (.bool sm),by simp [upd,g1,g2],bc (U xw) (U HD) xD (by decide) (fun j v h=>h) rfl⟩
  | 4,Z =>
   obtain rfl:=ya Z
   have g:f 3 = .bool sm:=hD 3 (ye D 3 rfl)
   clear D hD xm
   rw [if_pos (by rfl)];unfold Oper.wp;go_simp
   exact ⟨upd f 4 (.bool (!sm)),by simp [upd,g],zf (U xw) (U HD) (by decide) rfl⟩
  | n + 5,Z=>simp at Z
def refR (next:Int) (l:List Od) (c:Cm):Int :=
 if c.k = 1 then (if aK ⟨1,c.s,c.t,c.l,c.q,0,c.p,c.g⟩ c = true then newR next l c else 2)
 else if c.k = 2 then (if aK ⟨2,0,0,0,0,c.i,0,⟨#[]⟩⟩ c = true then idR l c.i else 2)
 else if c.k = 3 then (if aK ⟨3,0,0,0,c.q,c.i,0,⟨#[]⟩⟩ c = true then redR l c.i c.q else 2)
 else if c.k = 4 then (if aK ⟨4,0,0,0,0,0,0,⟨#[]⟩⟩ c = true then 0 else 2)
 else 1
theorem refusal_any (next:Int) (vb:Value) (l:List Od) (c:Cm) (w:World) (hr:RdR Od.vs 6 w vb l) (hs:SlOk vb) (hg:GoodL l) (h0:0 ≤ next) (Q:next ≤ 1000000) (ht:c.g.size ≤ maxLen) :
  Calls Tryz.prog 63 #[.agg #[H next,vb],cmV c] w fun e w'=>e = ym (H (refR next l c))∧yn w w':=by
 obtain ⟨kk,s,F,li,L,ii,pr,O⟩:=c
 unfold cmV
 simp only at ht ⊢
 by_cases e1:kk = 1
 ·subst e1; exact refusal_1 next vb l s F li L ii pr O w hr hs hg h0 Q ht
 by_cases e2:kk = 2
 ·subst e2; exact refusal_2 next vb l s F li L ii pr O w hr hs hg h0 Q ht
 by_cases e3:kk = 3
 ·subst e3; exact refusal_3 next vb l s F li L ii pr O w hr hs hg h0 Q ht
 by_cases e4:kk = 4
 ·subst e4; exact refusal_4 next vb l s F li L ii pr O w hr hs hg h0 Q ht
 have vJ:Hid (refR next l ⟨kk,s,F,li,L,ii,pr,O⟩ = 1):=by show _ = _; simp [refR,e1,e2,e3,e4]
 have jo:cmdI ⟨kk,s,F,li,L,ii,pr,O⟩ = .nilIface:=by simp [cmdI,e1,e2,e3,e4]
 obtain ⟨a,A,rfl,xG,hc⟩:=hr
 clear hc hg hs h0 Q ht xG e1 e2 e3 e4
 have xC:=zh w (E #[H next,.slice a l.length A] 28)
 have ua:((w.alloc (E #[H next,.slice a l.length A] 28)).alloc (E (yx kk s F li L ii pr O).toArray 43)).heap.size = w.heap.size + 1 + 1:=by rw [zh,xC]
 have r1:=zi w [H next,.slice a l.length A] 28
 have r2:=zi (w.alloc (E #[H next,.slice a l.length A] 28)) (yx kk s F li L ii pr O) 43
 rw [xC] at r2
 have qe:Below (w.heap.size + 1) (w.alloc (E #[H next,.slice a l.length A] 28)) ((w.alloc (E #[H next,.slice a l.length A] 28)).alloc (E (yx kk s F li L ii pr O).toArray 43)):=(Below.refl _ _).alloc (by rw [xC]; omega) _
 have xE:Hid (yn w ((w.alloc (E #[H next,.slice a l.length A] 28)).alloc (E (yx kk s F li L ii pr O).toArray 43))):=(eE _ _).alloc (by rw [xC]; omega) _
 have HX:Hid (_∧_):=⟨zb r1 qe (by omega),r2⟩
 have uv:Hid (w.heap.size < ((w.alloc (E #[H next,.slice a l.length A] 28)).alloc (E (yx kk s F li L ii pr O).toArray 43)).heap.size∧w.heap.size + 1 < ((w.alloc (E #[H next,.slice a l.length A] 28)).alloc (E (yx kk s F li L ii pr O).toArray 43)).heap.size):=⟨by omega,by omega⟩
 clear xC ua r1 r2 qe
 go_enter Tryz.func63,Tryz.ntmps63
 refine eI fun hR xv=>?_
 go_wp2_with fail
 refine U xv _ _ ?_
 clear xv
 generalize ((w.alloc (E #[H next,.slice a l.length A] 28)).alloc (E (yx kk s F li L ii pr O).toArray 43)) = X2 at xE HX uv ⊢
 have HX:Hid (X2.rangeAt w.heap.size 0 [H next,.slice a l.length A]∧X2.rangeAt (w.heap.size + 1) 0 (yx kk s F li L ii pr O)) :=U HX
 have k0:X2.cell? (yq w 0) = some (H next):=(U HX).1 0 _ rfl
 have k1:X2.cell? (yq w 1) = some (.slice a l.length A):=(U HX).1 1 _ rfl
 obtain ⟨o0,o1,o2,o3,o4,o5,o6,o7⟩:=yE (U HX).2
 go_wp2_with fail
 refine (cz ⟨kk,s,F,li,L,ii,pr,O⟩ X2).mono ?_
 rw [jo]
 clear jo
 rintro e w4 ⟨rfl,xD⟩
 have ud:=Y (eH (U xE) xD)
 clear xD
 go_wp2_with fail
 go_ret
 exact ⟨zt (U vJ).symm,U ud⟩
end Go.Proofs.YtbakanofkghmiaaGreat
