/-
  The reason why a command is refused, by the program: proved by walking the function, kind by kind.
-/
import Derived.Test.YtbakanofkghmiaaGreatPj21
set_option linter.unusedVariables false
set_option maxHeartbeats 6400000
set_option maxRecDepth 100000
namespace Go.Proofs.YtbakanofkghmiaaGreat
open Go.RowKit
def DK (iv tv cv:Value) (sm:Bool) (p:Prop) (V:World):Nat→Value→Prop
 | 0,v=>v = iv
 | 1,v=>v = tv
 | 2,v=>v = cv
 | 3,v=>v = .bool sm
 | 4,v=>v = .bool (!sm)
 | _,_=>True
theorem refusal_1 (next:Int) (vb:Value) (l:List Od) (s ty li X ii:Int) (pr:Nat) (O:ByteArray) (w:World) (hr:RdR Od.vs 6 w vb l) (hs:SlOk vb) (hg:GoodL l) (h0:0 ≤ next) (z:next ≤ 1000000) (ht:O.size ≤ maxLen) :
  Calls Tryz.prog 63 #[.agg #[H next,vb],.agg (yu 1 s ty li X ii pr O).toArray] w fun e w'=>e = yk (H (if aA ⟨1,s,ty,li,X,0,pr,O⟩ ⟨1,s,ty,li,X,ii,pr,O⟩ = true then newR next l ⟨1,s,ty,li,X,ii,pr,O⟩ else 2))∧yl w w':=by
 have HR:=Q hr
 have HG:=Q hg
 have uW:=Q hs
 have ur:Hid (0 ≤ next∧next ≤ 1000000):=⟨h0,z⟩
 have qU:=Q ht
 obtain ⟨a,F,rfl,xD,hc⟩:=hr
 clear hc hg hs h0 z ht xD
 generalize hsm:aA ⟨1,s,ty,li,X,0,pr,O⟩ ⟨1,s,ty,li,X,ii,pr,O⟩ = sm
 have HSM:=Q hsm
 clear hsm
 have xz:=ze w (E #[H next,.slice a l.length F] 28)
 have xY:((w.alloc (E #[H next,.slice a l.length F] 28)).alloc (E (yu 1 s ty li X ii pr O).toArray 43)).heap.size = w.heap.size + 1 + 1:=by rw [ze,xz]
 have r1:=zg w [H next,.slice a l.length F] 28
 have r2:=zg (w.alloc (E #[H next,.slice a l.length F] 28)) (yu 1 s ty li X ii pr O) 43
 rw [xz] at r2
 have qg:Below (w.heap.size + 1) (w.alloc (E #[H next,.slice a l.length F] 28)) ((w.alloc (E #[H next,.slice a l.length F] 28)).alloc (E (yu 1 s ty li X ii pr O).toArray 43)):=(Below.refl _ _).alloc (by rw [xz]; omega) _
 have xC:Hid (yl w ((w.alloc (E #[H next,.slice a l.length F] 28)).alloc (E (yu 1 s ty li X ii pr O).toArray 43))):=(eD _ _).alloc (by rw [xz]; omega) _
 have HX:Hid (_∧_):=⟨zb r1 qg (by omega),r2⟩
 have uj:Hid (w.heap.size < ((w.alloc (E #[H next,.slice a l.length F] 28)).alloc (E (yu 1 s ty li X ii pr O).toArray 43)).heap.size∧w.heap.size + 1 < ((w.alloc (E #[H next,.slice a l.length F] 28)).alloc (E (yu 1 s ty li X ii pr O).toArray 43)).heap.size):=⟨by omega,by omega⟩
 clear xz xY r1 r2 qg
 go_enter Tryz.func63,Tryz.ntmps63
 refine eH fun h2 xu=>?_
 go_wp2_with fail
 refine M xu _ _ ?_
 clear xu
 generalize ((w.alloc (E #[H next,.slice a l.length F] 28)).alloc (E (yu 1 s ty li X ii pr O).toArray 43)) = X2 at xC HX uj ⊢
 have HX:Hid (X2.rangeAt w.heap.size 0 [H next,.slice a l.length F]∧X2.rangeAt (w.heap.size + 1) 0 (yu 1 s ty li X ii pr O)):=M HX
 obtain ⟨o0,o1,o2,o3,o4,o5,o6,o7⟩:=yA (M HX).2
 go_wp2_with fail
 refine (cx ⟨1,s,ty,li,X,ii,pr,O⟩ X2).mono ?_
 have jb:cmdI ⟨1,s,ty,li,X,ii,pr,O⟩ = .iface 112 (.agg #[H s,H ty,H li,H X,yh pr,yi O]):=by simp [cmdI,noV]
 rw [jb]
 clear jb
 rintro e w4 ⟨rfl,xy⟩
 have xS:=Q (eG (M xC) xy)
 have xQ:Hid (w4.rangeAt w.heap.size 0 [H next,.slice a l.length F]∧w4.rangeAt (w.heap.size + 1) 0 (yu 1 s ty li X ii pr O)∧w.heap.size < w4.heap.size∧w.heap.size + 1 < w4.heap.size):=⟨zb (M HX).1 xy (M uj).1,zb (M HX).2 xy (M uj).2,yG (M uj).1 xy.size,yG (M uj).2 xy.size⟩
 clear xy o0 o1 o2 o3 o4 o5 o6 o7
 go_wp2_with fail
 refine zi (RG w4 (fun f=>{ tmps:=#[.agg #[H next,.slice a l.length F],.agg (yu 1 s ty li X ii pr O).toArray,ym w 0,I (w.heap.size + 1) 0,H 0,.iface 112 (.agg #[H s,H ty,H li,H X,yh pr,yi O]),Z,Z,Z,.agg (yu 1 s ty li X ii pr O).toArray,.iface 112 (.agg #[H s,H ty,H li,H X,yh pr,yi O]),.iface 112 (.agg #[H s,H ty,H li,H X,yh pr,yi O]),.bool false,f 0,f 1,f 2,f 3,f 4,Z,Z,Z,Z,Z,Z,Z,Z,Z,Z,Z,Z,Z,Z,Z,Z,Z,Z,Z,Z],defers:=[] }) 99 (DK (.iface 112 (.agg #[H s,H ty,H li,H X,yh pr,yi O])) (cmV ⟨1,s,ty,li,X,0,pr,O⟩) (.agg (yu 1 s ty li X ii pr O).toArray) sm)) (by kernel_rfl) ?_ ?_ ?_
 ·exact ⟨fun _=>Z,rfl,⟨rfl,rfl,rfl,Nat.le_refl _,fun _ _=>rfl⟩,fun j L=>by rw [yF] at L; split at L <;> simp at L⟩
 ·rintro x hR V ⟨f,rfl,xe,U⟩ hx xK
  have xm:=zL xK hx (by kernel_rfl)
  have e4:f 4 = .bool (!sm):=U 4 (xm 4 (by simp))
  have xo:=Q (eG (M xS) xe)
  have z0:=zb (M xQ).1 xe (M xQ).2.2.1 0 _ rfl
  have z1:=zb (M xQ).1 xe (M xQ).2.2.1 1 _ rfl
  rw [Nat.zero_add] at z0 z1
  have ta1:∀ W:World,Sem.run Tryz.prog (Instr.typeAssert (.iface 112 (.agg #[H s,H ty,H li,H X,yh pr,yi O])) 109 112 true) W = .ok (.tuple #[.agg #[H s,H ty,H li,H X,yh pr,yi O],.bool true]) W:=fun W=>by kernel_rfl
  simp only [e4]
  generalize f 0 = e0,f 1 = e1,f 2 = e2,f 3 = e3
  clear U xm e4 xK hx xe f x
  cases sm
  ·go_wp2_with fail
   go_ret
   exact ⟨rfl,M xo⟩
  ·have xL:w.heap.size < V.heap.size:=yH V (yn w 0) z0
   have y0:World.cell? (V.alloc (E #[H s,H ty,H li,H X,yh pr,yi O] 112)) (yn w 0) = some (H next):=(yS _ _ _ xL).trans z0
   have y1:World.cell? (V.alloc (E #[H s,H ty,H li,H X,yh pr,yi O] 112)) (yn w 1) = some (.slice a l.length F):=(yS _ _ _ xL).trans z1
   have uS:Hid (yl w (V.alloc (E #[H s,H ty,H li,H X,yh pr,yi O] 112))):=(M xo).alloc (M xo).size _
   clear z0 z1 xL
   have hsf:=sfl
   go_wp2_with fail
   refine (newRefusal_any next _ l ⟨1,s,ty,li,X,ii,pr,O⟩ _ (zh (M HR) (M uS) tg) (M uW) (M HG) (M ur).1 (M ur).2 (M qU)).mono ?_
   rintro e w7 ⟨rfl,ja⟩
   have ku:=Q (eG (M uS) ja)
   clear ja
   go_wp2_with fail
   go_ret
   exact ⟨rfl,M ku⟩
 ·rintro x hR V i op ⟨f,rfl,xe,U⟩ xk hx Y xq D
  clear xk
  have xo:=Q xe
  have HD:=Q U
  have u0:=zb (M xQ).2.1 xe (M xQ).2.2.2 0 _ rfl
  have u1:=zb (M xQ).2.1 xe (M xQ).2.2.2 1 _ rfl
  have u2:=zb (M xQ).2.1 xe (M xQ).2.2.2 2 _ rfl
  have u3:=zb (M xQ).2.1 xe (M xQ).2.2.2 3 _ rfl
  have u4:=zb (M xQ).2.1 xe (M xQ).2.2.2 4 _ rfl
  have u5:=zb (M xQ).2.1 xe (M xQ).2.2.2 5 _ rfl
  have u6:=zb (M xQ).2.1 xe (M xQ).2.2.2 6 _ rfl
  have u7:=zb (M xQ).2.1 xe (M xQ).2.2.2 7 _ rfl
  rw [Nat.zero_add] at u0 u1 u2 u3 u4 u5 u6 u7
  match i,Y with
  | 0,Y =>
   obtain rfl:=hD Y
   clear D U xe
   rw [if_pos (by rfl)];unfold Oper.wp;go_simp
   exact ⟨upd f 0 (.iface 112 (.agg #[H s,H ty,H li,H X,yh pr,yi O])),by simp [upd],zc (M xo) (M HD) (by decide) rfl⟩
  | 1,Y =>
   obtain rfl:=hD Y
   have g:f 0 = .iface 112 (.agg #[H s,H ty,H li,H X,yh pr,yi O]):=U 0 (yc D 0 rfl)
   have hm:∀ W:World,Sem.run Tryz.prog (method 322 112 (.agg #[H s,H ty,H li,H X,yh pr,yi O]) "loop.example/g00092/impl.told") W = .ok (113,.agg #[H s,H ty,H li,H X,yh pr,yi O]) W:=fun W=>by kernel_rfl
   clear D U xe
   rw [if_pos (by rfl)];unfold Oper.wp;go_simp
   refine (toldNew_any ⟨1,s,ty,li,X,ii,pr,O⟩ V).mono ?_
   rintro e w4 ⟨rfl,xy⟩
   exact ⟨upd f 1 (cmV ⟨1,s,ty,li,X,0,pr,O⟩),by simp [upd,g]; rfl,aP (M xo) (M HD) xy (by decide) (fun j v h=>h) rfl⟩
  | 2,Y =>
   obtain rfl:=hD Y
   clear D U xe
   rw [if_pos (by rfl)];unfold Oper.wp;go_simp
   exact ⟨upd f 2 (.agg (yu 1 s ty li X ii pr O).toArray),by simp [upd],zc (M xo) (M HD) (by decide) rfl⟩
  | 3,Y =>
   obtain rfl:=hD Y
   have g1:f 1 = cmV ⟨1,s,ty,li,X,0,pr,O⟩:=U 1 (yc D 1 rfl)
   have g2:f 2 = .agg (yu 1 s ty li X ii pr O).toArray:=U 2 (yc D 2 rfl)
   clear D U xe
   rw [if_pos (by rfl)];unfold Oper.wp;go_simp
   refine (dX ⟨1,s,ty,li,X,0,pr,O⟩ ⟨1,s,ty,li,X,ii,pr,O⟩ V).mono ?_
   rw [M HSM]
   rintro e w4 ⟨rfl,xy⟩
   exact ⟨upd f 3 (.bool sm),by simp [upd,g1,g2],aP (M xo) (M HD) xy (by decide) (fun j v h=>h) rfl⟩
  | 4,Y =>
   obtain rfl:=hD Y
   have g:f 3 = .bool sm:=U 3 (yc D 3 rfl)
   clear D U xe
   rw [if_pos (by rfl)];unfold Oper.wp;go_simp
   exact ⟨upd f 4 (.bool (!sm)),by simp [upd,g],zc (M xo) (M HD) (by decide) rfl⟩
  | n + 5,Y=>simp at Y
theorem refusal_2 (next:Int) (vb:Value) (l:List Od) (s ty li X ii:Int) (pr:Nat) (O:ByteArray) (w:World) (hr:RdR Od.vs 6 w vb l) (hs:SlOk vb) (hg:GoodL l) (h0:0 ≤ next) (z:next ≤ 1000000) (ht:O.size ≤ maxLen) :
  Calls Tryz.prog 63 #[.agg #[H next,vb],.agg (yu 2 s ty li X ii pr O).toArray] w fun e w'=>e = yk (H (if aA ⟨2,0,0,0,0,ii,0,⟨#[]⟩⟩ ⟨2,s,ty,li,X,ii,pr,O⟩ = true then idR l ii else 2))∧yl w w':=by
 have HR:=Q hr
 have HG:=Q hg
 have uW:=Q hs
 have ur:Hid (0 ≤ next∧next ≤ 1000000):=⟨h0,z⟩
 have qU:=Q ht
 obtain ⟨a,F,rfl,xD,hc⟩:=hr
 clear hc hg hs h0 z ht xD
 generalize hsm:aA ⟨2,0,0,0,0,ii,0,⟨#[]⟩⟩ ⟨2,s,ty,li,X,ii,pr,O⟩ = sm
 have HSM:=Q hsm
 clear hsm
 have xz:=ze w (E #[H next,.slice a l.length F] 28)
 have xY:((w.alloc (E #[H next,.slice a l.length F] 28)).alloc (E (yu 2 s ty li X ii pr O).toArray 43)).heap.size = w.heap.size + 1 + 1:=by rw [ze,xz]
 have r1:=zg w [H next,.slice a l.length F] 28
 have r2:=zg (w.alloc (E #[H next,.slice a l.length F] 28)) (yu 2 s ty li X ii pr O) 43
 rw [xz] at r2
 have qg:Below (w.heap.size + 1) (w.alloc (E #[H next,.slice a l.length F] 28)) ((w.alloc (E #[H next,.slice a l.length F] 28)).alloc (E (yu 2 s ty li X ii pr O).toArray 43)):=(Below.refl _ _).alloc (by rw [xz]; omega) _
 have xC:Hid (yl w ((w.alloc (E #[H next,.slice a l.length F] 28)).alloc (E (yu 2 s ty li X ii pr O).toArray 43))):=(eD _ _).alloc (by rw [xz]; omega) _
 have HX:Hid (_∧_):=⟨zb r1 qg (by omega),r2⟩
 have uj:Hid (w.heap.size < ((w.alloc (E #[H next,.slice a l.length F] 28)).alloc (E (yu 2 s ty li X ii pr O).toArray 43)).heap.size∧w.heap.size + 1 < ((w.alloc (E #[H next,.slice a l.length F] 28)).alloc (E (yu 2 s ty li X ii pr O).toArray 43)).heap.size):=⟨by omega,by omega⟩
 clear xz xY r1 r2 qg
 go_enter Tryz.func63,Tryz.ntmps63
 refine eH fun h2 xu=>?_
 go_wp2_with fail
 refine M xu _ _ ?_
 clear xu
 generalize ((w.alloc (E #[H next,.slice a l.length F] 28)).alloc (E (yu 2 s ty li X ii pr O).toArray 43)) = X2 at xC HX uj ⊢
 have HX:Hid (X2.rangeAt w.heap.size 0 [H next,.slice a l.length F]∧X2.rangeAt (w.heap.size + 1) 0 (yu 2 s ty li X ii pr O)):=M HX
 obtain ⟨o0,o1,o2,o3,o4,o5,o6,o7⟩:=yA (M HX).2
 go_wp2_with fail
 refine (cx ⟨2,s,ty,li,X,ii,pr,O⟩ X2).mono ?_
 have jb:cmdI ⟨2,s,ty,li,X,ii,pr,O⟩ = .iface 115 (.agg #[H ii]):=by simp [cmdI]
 rw [jb]
 clear jb
 rintro e w4 ⟨rfl,xy⟩
 have xS:=Q (eG (M xC) xy)
 have xQ:Hid (w4.rangeAt w.heap.size 0 [H next,.slice a l.length F]∧w4.rangeAt (w.heap.size + 1) 0 (yu 2 s ty li X ii pr O)∧w.heap.size < w4.heap.size∧w.heap.size + 1 < w4.heap.size):=⟨zb (M HX).1 xy (M uj).1,zb (M HX).2 xy (M uj).2,yG (M uj).1 xy.size,yG (M uj).2 xy.size⟩
 clear xy o0 o1 o2 o3 o4 o5 o6 o7
 go_wp2_with fail
 refine zi (RG w4 (fun f=>{ tmps:=#[.agg #[H next,.slice a l.length F],.agg (yu 2 s ty li X ii pr O).toArray,ym w 0,I (w.heap.size + 1) 0,H 0,.iface 115 (.agg #[H ii]),Z,Z,Z,.agg (yu 2 s ty li X ii pr O).toArray,.iface 115 (.agg #[H ii]),.iface 115 (.agg #[H ii]),.bool false,f 0,f 1,f 2,f 3,f 4,Z,Z,Z,Z,Z,Z,Z,Z,Z,Z,Z,Z,Z,Z,Z,Z,Z,Z,Z,Z],defers:=[] }) 99 (DK (.iface 115 (.agg #[H ii])) (cmV ⟨2,0,0,0,0,ii,0,⟨#[]⟩⟩) (.agg (yu 2 s ty li X ii pr O).toArray) sm)) (by kernel_rfl) ?_ ?_ ?_
 ·exact ⟨fun _=>Z,rfl,⟨rfl,rfl,rfl,Nat.le_refl _,fun _ _=>rfl⟩,fun j L=>by rw [yF] at L; split at L <;> simp at L⟩
 ·rintro x hR V ⟨f,rfl,xe,U⟩ hx xK
  have xm:=zL xK hx (by kernel_rfl)
  have e4:f 4 = .bool (!sm):=U 4 (xm 4 (by simp))
  have xo:=Q (eG (M xS) xe)
  have z0:=zb (M xQ).1 xe (M xQ).2.2.1 0 _ rfl
  have z1:=zb (M xQ).1 xe (M xQ).2.2.1 1 _ rfl
  rw [Nat.zero_add] at z0 z1
  have ta1:∀ W:World,Sem.run Tryz.prog (Instr.typeAssert (.iface 115 (.agg #[H ii])) 109 112 true) W = .ok (.tuple #[.agg #[H 0,H 0,H 0,H 0,yh 0,yi ⟨#[]⟩],.bool false]) W:=fun W=>by kernel_rfl
  have ta2:∀ W:World,Sem.run Tryz.prog (Instr.typeAssert (.iface 115 (.agg #[H ii])) 109 115 true) W = .ok (.tuple #[.agg #[H ii],.bool true]) W:=fun W=>by kernel_rfl
  simp only [e4]
  generalize f 0 = e0,f 1 = e1,f 2 = e2,f 3 = e3
  clear U xm e4 xK hx xe f x
  cases sm
  ·go_wp2_with fail
   go_ret
   exact ⟨rfl,M xo⟩
  ·have xL:w.heap.size < V.heap.size:=yH V (yn w 0) z0
   have y0:World.cell? (V.alloc (E #[H ii] 115)) (yn w 0) = some (H next):=(yS _ _ _ xL).trans z0
   have y1:World.cell? (V.alloc (E #[H ii] 115)) (yn w 1) = some (.slice a l.length F):=(yS _ _ _ xL).trans z1
   have uS:Hid (yl w (V.alloc (E #[H ii] 115))):=(M xo).alloc (M xo).size _
   clear z0 z1 xL
   go_wp2_with fail
   refine (idRefusal_any next _ l ii _ (zh (M HR) (M uS) tg)).mono ?_
   rintro e w7 ⟨rfl,ja⟩
   have ku:=Q (eG (M uS) ja)
   clear ja
   go_wp2_with fail
   go_ret
   exact ⟨rfl,M ku⟩
 ·rintro x hR V i op ⟨f,rfl,xe,U⟩ xk hx Y xq D
  clear xk
  have xo:=Q xe
  have HD:=Q U
  have u0:=zb (M xQ).2.1 xe (M xQ).2.2.2 0 _ rfl
  have u1:=zb (M xQ).2.1 xe (M xQ).2.2.2 1 _ rfl
  have u2:=zb (M xQ).2.1 xe (M xQ).2.2.2 2 _ rfl
  have u3:=zb (M xQ).2.1 xe (M xQ).2.2.2 3 _ rfl
  have u4:=zb (M xQ).2.1 xe (M xQ).2.2.2 4 _ rfl
  have u5:=zb (M xQ).2.1 xe (M xQ).2.2.2 5 _ rfl
  have u6:=zb (M xQ).2.1 xe (M xQ).2.2.2 6 _ rfl
  have u7:=zb (M xQ).2.1 xe (M xQ).2.2.2 7 _ rfl
  rw [Nat.zero_add] at u0 u1 u2 u3 u4 u5 u6 u7
  match i,Y with
  | 0,Y =>
   obtain rfl:=hD Y
   clear D U xe
   rw [if_pos (by rfl)];unfold Oper.wp;go_simp
   exact ⟨upd f 0 (.iface 115 (.agg #[H ii])),by simp [upd],zc (M xo) (M HD) (by decide) rfl⟩
  | 1,Y =>
   obtain rfl:=hD Y
   have g:f 0 = .iface 115 (.agg #[H ii]):=U 0 (yc D 0 rfl)
   have hm:∀ W:World,Sem.run Tryz.prog (method 322 115 (.agg #[H ii]) "loop.example/g00092/impl.told") W = .ok (185,.agg #[H ii]) W:=fun W=>by kernel_rfl
   clear D U xe
   rw [if_pos (by rfl)];unfold Oper.wp;go_simp
   refine (toldCancel_any ii V).mono ?_
   rintro e w4 ⟨rfl,xy⟩
   exact ⟨upd f 1 (cmV ⟨2,0,0,0,0,ii,0,⟨#[]⟩⟩),by simp [upd,g]; rfl,aP (M xo) (M HD) xy (by decide) (fun j v h=>h) rfl⟩
  | 2,Y =>
   obtain rfl:=hD Y
   clear D U xe
   rw [if_pos (by rfl)];unfold Oper.wp;go_simp
   exact ⟨upd f 2 (.agg (yu 2 s ty li X ii pr O).toArray),by simp [upd],zc (M xo) (M HD) (by decide) rfl⟩
  | 3,Y =>
   obtain rfl:=hD Y
   have g1:f 1 = cmV ⟨2,0,0,0,0,ii,0,⟨#[]⟩⟩:=U 1 (yc D 1 rfl)
   have g2:f 2 = .agg (yu 2 s ty li X ii pr O).toArray:=U 2 (yc D 2 rfl)
   clear D U xe
   rw [if_pos (by rfl)];unfold Oper.wp;go_simp
   refine (dX ⟨2,0,0,0,0,ii,0,⟨#[]⟩⟩ ⟨2,s,ty,li,X,ii,pr,O⟩ V).mono ?_
   rw [M HSM]
   rintro e w4 ⟨rfl,xy⟩
   exact ⟨upd f 3 (.bool sm),by simp [upd,g1,g2],aP (M xo) (M HD) xy (by decide) (fun j v h=>h) rfl⟩
  | 4,Y =>
   obtain rfl:=hD Y
   have g:f 3 = .bool sm:=U 3 (yc D 3 rfl)
   clear D U xe
   rw [if_pos (by rfl)];unfold Oper.wp;go_simp
   exact ⟨upd f 4 (.bool (!sm)),by simp [upd,g],zc (M xo) (M HD) (by decide) rfl⟩
  | n + 5,Y=>simp at Y
theorem refusal_3 (next:Int) (vb:Value) (l:List Od) (s ty li X ii:Int) (pr:Nat) (O:ByteArray) (w:World) (hr:RdR Od.vs 6 w vb l) (hs:SlOk vb) (hg:GoodL l) (h0:0 ≤ next) (z:next ≤ 1000000) (ht:O.size ≤ maxLen) :
  Calls Tryz.prog 63 #[.agg #[H next,vb],.agg (yu 3 s ty li X ii pr O).toArray] w fun e w'=>e = yk (H (if aA ⟨3,0,0,0,X,ii,0,⟨#[]⟩⟩ ⟨3,s,ty,li,X,ii,pr,O⟩ = true then redR l ii X else 2))∧yl w w':=by
 have HR:=Q hr
 have HG:=Q hg
 have uW:=Q hs
 have ur:Hid (0 ≤ next∧next ≤ 1000000):=⟨h0,z⟩
 have qU:=Q ht
 obtain ⟨a,F,rfl,xD,hc⟩:=hr
 clear hc hg hs h0 z ht xD
 generalize hsm:aA ⟨3,0,0,0,X,ii,0,⟨#[]⟩⟩ ⟨3,s,ty,li,X,ii,pr,O⟩ = sm
 have HSM:=Q hsm
 clear hsm
 have xz:=ze w (E #[H next,.slice a l.length F] 28)
 have xY:((w.alloc (E #[H next,.slice a l.length F] 28)).alloc (E (yu 3 s ty li X ii pr O).toArray 43)).heap.size = w.heap.size + 1 + 1:=by rw [ze,xz]
 have r1:=zg w [H next,.slice a l.length F] 28
 have r2:=zg (w.alloc (E #[H next,.slice a l.length F] 28)) (yu 3 s ty li X ii pr O) 43
 rw [xz] at r2
 have qg:Below (w.heap.size + 1) (w.alloc (E #[H next,.slice a l.length F] 28)) ((w.alloc (E #[H next,.slice a l.length F] 28)).alloc (E (yu 3 s ty li X ii pr O).toArray 43)):=(Below.refl _ _).alloc (by rw [xz]; omega) _
 have xC:Hid (yl w ((w.alloc (E #[H next,.slice a l.length F] 28)).alloc (E (yu 3 s ty li X ii pr O).toArray 43))):=(eD _ _).alloc (by rw [xz]; omega) _
 have HX:Hid (_∧_):=⟨zb r1 qg (by omega),r2⟩
 have uj:Hid (w.heap.size < ((w.alloc (E #[H next,.slice a l.length F] 28)).alloc (E (yu 3 s ty li X ii pr O).toArray 43)).heap.size∧w.heap.size + 1 < ((w.alloc (E #[H next,.slice a l.length F] 28)).alloc (E (yu 3 s ty li X ii pr O).toArray 43)).heap.size):=⟨by omega,by omega⟩
 clear xz xY r1 r2 qg
 go_enter Tryz.func63,Tryz.ntmps63
 refine eH fun h2 xu=>?_
 go_wp2_with fail
 refine M xu _ _ ?_
 clear xu
 generalize ((w.alloc (E #[H next,.slice a l.length F] 28)).alloc (E (yu 3 s ty li X ii pr O).toArray 43)) = X2 at xC HX uj ⊢
 have HX:Hid (X2.rangeAt w.heap.size 0 [H next,.slice a l.length F]∧X2.rangeAt (w.heap.size + 1) 0 (yu 3 s ty li X ii pr O)):=M HX
 obtain ⟨o0,o1,o2,o3,o4,o5,o6,o7⟩:=yA (M HX).2
 go_wp2_with fail
 refine (cx ⟨3,s,ty,li,X,ii,pr,O⟩ X2).mono ?_
 have jb:cmdI ⟨3,s,ty,li,X,ii,pr,O⟩ = .iface 118 (.agg #[H ii,H X]):=by simp [cmdI]
 rw [jb]
 clear jb
 rintro e w4 ⟨rfl,xy⟩
 have xS:=Q (eG (M xC) xy)
 have xQ:Hid (w4.rangeAt w.heap.size 0 [H next,.slice a l.length F]∧w4.rangeAt (w.heap.size + 1) 0 (yu 3 s ty li X ii pr O)∧w.heap.size < w4.heap.size∧w.heap.size + 1 < w4.heap.size):=⟨zb (M HX).1 xy (M uj).1,zb (M HX).2 xy (M uj).2,yG (M uj).1 xy.size,yG (M uj).2 xy.size⟩
 clear xy o0 o1 o2 o3 o4 o5 o6 o7
 go_wp2_with fail
 refine zi (RG w4 (fun f=>{ tmps:=#[.agg #[H next,.slice a l.length F],.agg (yu 3 s ty li X ii pr O).toArray,ym w 0,I (w.heap.size + 1) 0,H 0,.iface 118 (.agg #[H ii,H X]),Z,Z,Z,.agg (yu 3 s ty li X ii pr O).toArray,.iface 118 (.agg #[H ii,H X]),.iface 118 (.agg #[H ii,H X]),.bool false,f 0,f 1,f 2,f 3,f 4,Z,Z,Z,Z,Z,Z,Z,Z,Z,Z,Z,Z,Z,Z,Z,Z,Z,Z,Z,Z],defers:=[] }) 99 (DK (.iface 118 (.agg #[H ii,H X])) (cmV ⟨3,0,0,0,X,ii,0,⟨#[]⟩⟩) (.agg (yu 3 s ty li X ii pr O).toArray) sm)) (by kernel_rfl) ?_ ?_ ?_
 ·exact ⟨fun _=>Z,rfl,⟨rfl,rfl,rfl,Nat.le_refl _,fun _ _=>rfl⟩,fun j L=>by rw [yF] at L; split at L <;> simp at L⟩
 ·rintro x hR V ⟨f,rfl,xe,U⟩ hx xK
  have xm:=zL xK hx (by kernel_rfl)
  have e4:f 4 = .bool (!sm):=U 4 (xm 4 (by simp))
  have xo:=Q (eG (M xS) xe)
  have z0:=zb (M xQ).1 xe (M xQ).2.2.1 0 _ rfl
  have z1:=zb (M xQ).1 xe (M xQ).2.2.1 1 _ rfl
  rw [Nat.zero_add] at z0 z1
  have ta1:∀ W:World,Sem.run Tryz.prog (Instr.typeAssert (.iface 118 (.agg #[H ii,H X])) 109 112 true) W = .ok (.tuple #[.agg #[H 0,H 0,H 0,H 0,yh 0,yi ⟨#[]⟩],.bool false]) W:=fun W=>by kernel_rfl
  have ta2:∀ W:World,Sem.run Tryz.prog (Instr.typeAssert (.iface 118 (.agg #[H ii,H X])) 109 115 true) W = .ok (.tuple #[.agg #[H 0],.bool false]) W:=fun W=>by kernel_rfl
  have ta3:∀ W:World,Sem.run Tryz.prog (Instr.typeAssert (.iface 118 (.agg #[H ii,H X])) 109 118 true) W = .ok (.tuple #[.agg #[H ii,H X],.bool true]) W:=fun W=>by kernel_rfl
  simp only [e4]
  generalize f 0 = e0,f 1 = e1,f 2 = e2,f 3 = e3
  clear U xm e4 xK hx xe f x
  cases sm
  ·go_wp2_with fail
   go_ret
   exact ⟨rfl,M xo⟩
  ·have xL:w.heap.size < V.heap.size:=yH V (yn w 0) z0
   have y0:World.cell? (V.alloc (E #[H ii,H X] 118)) (yn w 0) = some (H next):=(yS _ _ _ xL).trans z0
   have y1:World.cell? (V.alloc (E #[H ii,H X] 118)) (yn w 1) = some (.slice a l.length F):=(yS _ _ _ xL).trans z1
   have uS:Hid (yl w (V.alloc (E #[H ii,H X] 118))):=(M xo).alloc (M xo).size _
   clear z0 z1 xL
   go_wp2_with fail
   refine (reduceRefusal_any next _ l ii X _ (zh (M HR) (M uS) tg)).mono ?_
   rintro e w7 ⟨rfl,ja⟩
   have ku:=Q (eG (M uS) ja)
   clear ja
   go_wp2_with fail
   go_ret
   exact ⟨rfl,M ku⟩
 ·rintro x hR V i op ⟨f,rfl,xe,U⟩ xk hx Y xq D
  clear xk
  have xo:=Q xe
  have HD:=Q U
  have u0:=zb (M xQ).2.1 xe (M xQ).2.2.2 0 _ rfl
  have u1:=zb (M xQ).2.1 xe (M xQ).2.2.2 1 _ rfl
  have u2:=zb (M xQ).2.1 xe (M xQ).2.2.2 2 _ rfl
  have u3:=zb (M xQ).2.1 xe (M xQ).2.2.2 3 _ rfl
  have u4:=zb (M xQ).2.1 xe (M xQ).2.2.2 4 _ rfl
  have u5:=zb (M xQ).2.1 xe (M xQ).2.2.2 5 _ rfl
  have u6:=zb (M xQ).2.1 xe (M xQ).2.2.2 6 _ rfl
  have u7:=zb (M xQ).2.1 xe (M xQ).2.2.2 7 _ rfl
  rw [Nat.zero_add] at u0 u1 u2 u3 u4 u5 u6 u7
  match i,Y with
  | 0,Y =>
   obtain rfl:=hD Y
   clear D U xe
   rw [if_pos (by rfl)];unfold Oper.wp;go_simp
   exact ⟨upd f 0 (.iface 118 (.agg #[H ii,H X])),by simp [upd],zc (M xo) (M HD) (by decide) rfl⟩
  | 1,Y =>
   obtain rfl:=hD Y
   have g:f 0 = .iface 118 (.agg #[H ii,H X]):=U 0 (yc D 0 rfl)
   have hm:∀ W:World,Sem.run Tryz.prog (method 322 118 (.agg #[H ii,H X]) "loop.example/g00092/impl.told") W = .ok (186,.agg #[H ii,H X]) W:=fun W=>by kernel_rfl
   clear D U xe
   rw [if_pos (by rfl)];unfold Oper.wp;go_simp
   refine (toldReduce_any ii X V).mono ?_
   rintro e w4 ⟨rfl,xy⟩
   exact ⟨upd f 1 (cmV ⟨3,0,0,0,X,ii,0,⟨#[]⟩⟩),by simp [upd,g]; rfl,aP (M xo) (M HD) xy (by decide) (fun j v h=>h) rfl⟩
  | 2,Y =>
   obtain rfl:=hD Y
   clear D U xe
   rw [if_pos (by rfl)];unfold Oper.wp;go_simp
   exact ⟨upd f 2 (.agg (yu 3 s ty li X ii pr O).toArray),by simp [upd],zc (M xo) (M HD) (by decide) rfl⟩
  | 3,Y =>
   obtain rfl:=hD Y
   have g1:f 1 = cmV ⟨3,0,0,0,X,ii,0,⟨#[]⟩⟩:=U 1 (yc D 1 rfl)
   have g2:f 2 = .agg (yu 3 s ty li X ii pr O).toArray:=U 2 (yc D 2 rfl)
   clear D U xe
   rw [if_pos (by rfl)];unfold Oper.wp;go_simp
   refine (dX ⟨3,0,0,0,X,ii,0,⟨#[]⟩⟩ ⟨3,s,ty,li,X,ii,pr,O⟩ V).mono ?_
   rw [M HSM]
   rintro e w4 ⟨rfl,xy⟩
   exact ⟨upd f 3 (.bool sm),by simp [upd,g1,g2],aP (M xo) (M HD) xy (by decide) (fun j v h=>h) rfl⟩
  | 4,Y =>
   obtain rfl:=hD Y
   have g:f 3 = .bool sm:=U 3 (yc D 3 rfl)
   clear D U xe
   rw [if_pos (by rfl)];unfold Oper.wp;go_simp
   exact ⟨upd f 4 (.bool (!sm)),by simp [upd,g],zc (M xo) (M HD) (by decide) rfl⟩
  | n + 5,Y=>simp at Y
theorem refusal_4 (next:Int) (vb:Value) (l:List Od) (s ty li X ii:Int) (pr:Nat) (O:ByteArray) (w:World) (hr:RdR Od.vs 6 w vb l) (hs:SlOk vb) (hg:GoodL l) (h0:0 ≤ next) (z:next ≤ 1000000) (ht:O.size ≤ maxLen) :
  Calls Tryz.prog 63 #[.agg #[H next,vb],.agg (yu 4 s ty li X ii pr O).toArray] w fun e w'=>e = yk (H (if aA ⟨4,0,0,0,0,0,0,⟨#[]⟩⟩ ⟨4,s,ty,li,X,ii,pr,O⟩ = true then 0 else 2))∧yl w w':=by
 have HR:=Q hr
 have HG:=Q hg
 have uW:=Q hs
 have ur:Hid (0 ≤ next∧next ≤ 1000000):=⟨h0,z⟩
 have qU:=Q ht
 obtain ⟨a,F,rfl,xD,hc⟩:=hr
 clear hc hg hs h0 z ht xD
 generalize hsm:aA ⟨4,0,0,0,0,0,0,⟨#[]⟩⟩ ⟨4,s,ty,li,X,ii,pr,O⟩ = sm
 have HSM:=Q hsm
 clear hsm
 have xz:=ze w (E #[H next,.slice a l.length F] 28)
 have xY:((w.alloc (E #[H next,.slice a l.length F] 28)).alloc (E (yu 4 s ty li X ii pr O).toArray 43)).heap.size = w.heap.size + 1 + 1:=by rw [ze,xz]
 have r1:=zg w [H next,.slice a l.length F] 28
 have r2:=zg (w.alloc (E #[H next,.slice a l.length F] 28)) (yu 4 s ty li X ii pr O) 43
 rw [xz] at r2
 have qg:Below (w.heap.size + 1) (w.alloc (E #[H next,.slice a l.length F] 28)) ((w.alloc (E #[H next,.slice a l.length F] 28)).alloc (E (yu 4 s ty li X ii pr O).toArray 43)):=(Below.refl _ _).alloc (by rw [xz]; omega) _
 have xC:Hid (yl w ((w.alloc (E #[H next,.slice a l.length F] 28)).alloc (E (yu 4 s ty li X ii pr O).toArray 43))):=(eD _ _).alloc (by rw [xz]; omega) _
 have HX:Hid (_∧_):=⟨zb r1 qg (by omega),r2⟩
 have uj:Hid (w.heap.size < ((w.alloc (E #[H next,.slice a l.length F] 28)).alloc (E (yu 4 s ty li X ii pr O).toArray 43)).heap.size∧w.heap.size + 1 < ((w.alloc (E #[H next,.slice a l.length F] 28)).alloc (E (yu 4 s ty li X ii pr O).toArray 43)).heap.size):=⟨by omega,by omega⟩
 clear xz xY r1 r2 qg
 go_enter Tryz.func63,Tryz.ntmps63
 refine eH fun h2 xu=>?_
 go_wp2_with fail
 refine M xu _ _ ?_
 clear xu
 generalize ((w.alloc (E #[H next,.slice a l.length F] 28)).alloc (E (yu 4 s ty li X ii pr O).toArray 43)) = X2 at xC HX uj ⊢
 have HX:Hid (X2.rangeAt w.heap.size 0 [H next,.slice a l.length F]∧X2.rangeAt (w.heap.size + 1) 0 (yu 4 s ty li X ii pr O)):=M HX
 obtain ⟨o0,o1,o2,o3,o4,o5,o6,o7⟩:=yA (M HX).2
 go_wp2_with fail
 refine (cx ⟨4,s,ty,li,X,ii,pr,O⟩ X2).mono ?_
 have jb:cmdI ⟨4,s,ty,li,X,ii,pr,O⟩ = .iface 121 (.agg #[]):=by simp [cmdI]
 rw [jb]
 clear jb
 rintro e w4 ⟨rfl,xy⟩
 have xS:=Q (eG (M xC) xy)
 have xQ:Hid (w4.rangeAt w.heap.size 0 [H next,.slice a l.length F]∧w4.rangeAt (w.heap.size + 1) 0 (yu 4 s ty li X ii pr O)∧w.heap.size < w4.heap.size∧w.heap.size + 1 < w4.heap.size):=⟨zb (M HX).1 xy (M uj).1,zb (M HX).2 xy (M uj).2,yG (M uj).1 xy.size,yG (M uj).2 xy.size⟩
 clear xy o0 o1 o2 o3 o4 o5 o6 o7
 go_wp2_with fail
 refine zi (RG w4 (fun f=>{ tmps:=#[.agg #[H next,.slice a l.length F],.agg (yu 4 s ty li X ii pr O).toArray,ym w 0,I (w.heap.size + 1) 0,H 0,.iface 121 (.agg #[]),Z,Z,Z,.agg (yu 4 s ty li X ii pr O).toArray,.iface 121 (.agg #[]),.iface 121 (.agg #[]),.bool false,f 0,f 1,f 2,f 3,f 4,Z,Z,Z,Z,Z,Z,Z,Z,Z,Z,Z,Z,Z,Z,Z,Z,Z,Z,Z,Z],defers:=[] }) 99 (DK (.iface 121 (.agg #[])) (cmV ⟨4,0,0,0,0,0,0,⟨#[]⟩⟩) (.agg (yu 4 s ty li X ii pr O).toArray) sm)) (by kernel_rfl) ?_ ?_ ?_
 ·exact ⟨fun _=>Z,rfl,⟨rfl,rfl,rfl,Nat.le_refl _,fun _ _=>rfl⟩,fun j L=>by rw [yF] at L; split at L <;> simp at L⟩
 ·rintro x hR V ⟨f,rfl,xe,U⟩ hx xK
  have xm:=zL xK hx (by kernel_rfl)
  have e4:f 4 = .bool (!sm):=U 4 (xm 4 (by simp))
  have xo:=Q (eG (M xS) xe)
  have z0:=zb (M xQ).1 xe (M xQ).2.2.1 0 _ rfl
  have z1:=zb (M xQ).1 xe (M xQ).2.2.1 1 _ rfl
  rw [Nat.zero_add] at z0 z1
  have ta1:∀ W:World,Sem.run Tryz.prog (Instr.typeAssert (.iface 121 (.agg #[])) 109 112 true) W = .ok (.tuple #[.agg #[H 0,H 0,H 0,H 0,yh 0,yi ⟨#[]⟩],.bool false]) W:=fun W=>by kernel_rfl
  have ta2:∀ W:World,Sem.run Tryz.prog (Instr.typeAssert (.iface 121 (.agg #[])) 109 115 true) W = .ok (.tuple #[.agg #[H 0],.bool false]) W:=fun W=>by kernel_rfl
  have ta3:∀ W:World,Sem.run Tryz.prog (Instr.typeAssert (.iface 121 (.agg #[])) 109 118 true) W = .ok (.tuple #[.agg #[H 0,H 0],.bool false]) W:=fun W=>by kernel_rfl
  simp only [e4]
  generalize f 0 = e0,f 1 = e1,f 2 = e2,f 3 = e3
  clear U xm e4 xK hx xe f x
  cases sm
  ·go_wp2_with fail
   go_ret
   exact ⟨rfl,M xo⟩
  ·go_wp2_with fail
   go_ret
   exact ⟨rfl,M xo⟩
 ·rintro x hR V i op ⟨f,rfl,xe,U⟩ xk hx Y xq D
  clear xk
  have xo:=Q xe
  have HD:=Q U
  have u0:=zb (M xQ).2.1 xe (M xQ).2.2.2 0 _ rfl
  have u1:=zb (M xQ).2.1 xe (M xQ).2.2.2 1 _ rfl
  have u2:=zb (M xQ).2.1 xe (M xQ).2.2.2 2 _ rfl
  have u3:=zb (M xQ).2.1 xe (M xQ).2.2.2 3 _ rfl
  have u4:=zb (M xQ).2.1 xe (M xQ).2.2.2 4 _ rfl
  have u5:=zb (M xQ).2.1 xe (M xQ).2.2.2 5 _ rfl
  have u6:=zb (M xQ).2.1 xe (M xQ).2.2.2 6 _ rfl
  have u7:=zb (M xQ).2.1 xe (M xQ).2.2.2 7 _ rfl
  rw [Nat.zero_add] at u0 u1 u2 u3 u4 u5 u6 u7
  match i,Y with
  | 0,Y =>
   obtain rfl:=hD Y
   clear D U xe
   rw [if_pos (by rfl)];unfold Oper.wp;go_simp
   exact ⟨upd f 0 (.iface 121 (.agg #[])),by simp [upd],zc (M xo) (M HD) (by decide) rfl⟩
  | 1,Y =>
   obtain rfl:=hD Y
   have g:f 0 = .iface 121 (.agg #[]):=U 0 (yc D 0 rfl)
   have hm:∀ W:World,Sem.run Tryz.prog (method 322 121 (.agg #[]) "loop.example/g00092/impl.told") W = .ok (187,.agg #[]) W:=fun W=>by kernel_rfl
   clear D U xe
   rw [if_pos (by rfl)];unfold Oper.wp;go_simp
   refine (toldDay_any V).mono ?_
   rintro e w4 ⟨rfl,xy⟩
   exact ⟨upd f 1 (cmV ⟨4,0,0,0,0,0,0,⟨#[]⟩⟩),by simp [upd,g]; rfl,aP (M xo) (M HD) xy (by decide) (fun j v h=>h) rfl⟩
  | 2,Y =>
   obtain rfl:=hD Y
   clear D U xe
   rw [if_pos (by rfl)];unfold Oper.wp;go_simp
   exact ⟨upd f 2 (.agg (yu 4 s ty li X ii pr O).toArray),by simp [upd],zc (M xo) (M HD) (by decide) rfl⟩
  | 3,Y =>
   obtain rfl:=hD Y
   have g1:f 1 = cmV ⟨4,0,0,0,0,0,0,⟨#[]⟩⟩:=U 1 (yc D 1 rfl)
   have g2:f 2 = .agg (yu 4 s ty li X ii pr O).toArray:=U 2 (yc D 2 rfl)
   clear D U xe
   rw [if_pos (by rfl)];unfold Oper.wp;go_simp
   refine (dX ⟨4,0,0,0,0,0,0,⟨#[]⟩⟩ ⟨4,s,ty,li,X,ii,pr,O⟩ V).mono ?_
   rw [M HSM]
   rintro e w4 ⟨rfl,xy⟩
   exact ⟨upd f 3 (.bool sm),by simp [upd,g1,g2],aP (M xo) (M HD) xy (by decide) (fun j v h=>h) rfl⟩
  | 4,Y =>
   obtain rfl:=hD Y
   have g:f 3 = .bool sm:=U 3 (yc D 3 rfl)
   clear D U xe
   rw [if_pos (by rfl)];unfold Oper.wp;go_simp
   exact ⟨upd f 4 (.bool (!sm)),by simp [upd,g],zc (M xo) (M HD) (by decide) rfl⟩
  | n + 5,Y=>simp at Y
end Go.Proofs.YtbakanofkghmiaaGreat
