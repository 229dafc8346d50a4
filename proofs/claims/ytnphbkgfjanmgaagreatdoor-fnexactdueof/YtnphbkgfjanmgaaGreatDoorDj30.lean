/-
  A taker trades with the order at a place, by the model: proved by walking the function.
-/
import Derived.Test.YtnphbkgfjanmgaaGreatDoorDj29
set_option linter.unusedVariables false
set_option maxHeartbeats 6400000
set_option maxRecDepth 100000
namespace Go.Proofs.YtnphbkgfjanmgaaGreatDoor
open Go.RowKit
structure R8 (v ta ea:Value) (V0 V1 V2:World) (x:List Bool) (f:Nat→Value) (W:World):Prop where
 f0:x[0]? = some true→f 0 = v
 f1:x[1]? = some true→f 1 = ta
 f2:x[2]? = some true→f 2 = ea
 f3:x[3]? = some true→f 3 = v
 f5:x[5]? = some true→f 5 = ea
 s0:x[4]? = some false→W = V0
 s1:x[4]? = some true→x[5]? = some false→W = V1
 s2:x[4]? = some true→x[5]? = some true→W = V2
def R8A (cl:(Nat→Value)→Act) (v ta ea:Value) (V0 V1 V2:World) (x:List Bool) (cs:Act) (W:World):Prop:=∃ f,cs = cl f∧R8 v ta ea V0 V1 V2 x f W
section
variable {v ta ea:Value} {V0 V1 V2:World} {x:List Bool} {f:Nat→Value} {W:World}
theorem r8_val (h:R8 v ta ea V0 V1 V2 x f W) (i:Nat) (u:Value) (hi:i < 4) (h0:i = 0→u = v) (N:i = 1→u = ta) (Y:i = 2→u = ea) (h3:i = 3→u = v):R8 v ta ea V0 V1 V2 (x.set i true) (upd f i u) W:=by
 have key:∀ j (y:Value),(x[j]? = some true→f j = y)→(i = j→u = y)→(x.set i true)[j]? = some true→upd f i u j = y:=by
  intro j y hf hu hx
  by_cases e:i = j
  ·subst e; rw [zr]; exact hu rfl
  ·rw [zk _ _ (fun e'=>e e'.symm)]; rw [gq e] at hx; exact hf hx
 refine ⟨key 0 v h.f0 h0,key 1 ta h.f1 N,key 2 ea h.f2 Y,key 3 v h.f3 h3,key 5 ea h.f5 (by omega),?_,?_,?_⟩ <;> rw [gq (show i ≠ 4 by omega)]
 ·exact h.s0
 ·rw [gq (show i ≠ 5 by omega)]; exact h.s1
 ·rw [gq (show i ≠ 5 by omega)]; exact h.s2
theorem r8_4 (h:R8 v ta ea V0 V1 V2 x f W) (h4:x[4]? = some false) (h5:x[5]? = some false):R8 v ta ea V0 V1 V2 (x.set 4 true) f V1:=by
 refine ⟨?_,?_,?_,?_,?_,?_,?_,?_⟩
 ·rw [gq (by omega)]; exact h.f0
 ·rw [gq (by omega)]; exact h.f1
 ·rw [gq (by omega)]; exact h.f2
 ·rw [gq (by omega)]; exact h.f3
 ·rw [gq (by omega)]; exact h.f5
 ·intro e; rw [gqs h4] at e; cases e
 ·exact fun _ _=>rfl
 ·intro _ e; rw [gq (by omega),h5] at e; cases e
theorem r8_5 (h:R8 v ta ea V0 V1 V2 x f W) (h4:x[4]? = some true) (h5:x[5]? = some false):R8 v ta ea V0 V1 V2 (x.set 5 true) (upd f 5 ea) V2:=by
 refine ⟨?_,?_,?_,?_,?_,?_,?_,?_⟩
 ·rw [gq (by omega),zk _ _ (by omega)]; exact h.f0
 ·rw [gq (by omega),zk _ _ (by omega)]; exact h.f1
 ·rw [gq (by omega),zk _ _ (by omega)]; exact h.f2
 ·rw [gq (by omega),zk _ _ (by omega)]; exact h.f3
 ·intro _; exact zr _ _ _
 ·intro e; rw [gq (by omega),h4] at e; cases e
 ·intro _ e; rw [gqs h5] at e; cases e
 ·exact fun _ _=>rfl
end
theorem dH {B b:Nat} {v:Value} {l:List Od} (E:b < B):∀ (vs:List Value) (o:Nat) (W:World),ORow W B v l→ORow (W.setCells b o vs) B v l
 | [],_,_,h=>h
 | u :: us,o,W,h=>by rw [World.setCells]; exact dH E us (o + 1) _ (oRow_set h E o u)
theorem eL {W:World} {b o p k:Nat} {A vs:List Value} (h:W.rangeAt b o A) (E:p ≠ b):(W.setCells p k vs).rangeAt b o A:=fun j u V =>
 (World.cell?_setCells_out p vs k W (Q b (o + j)) (fun e=>absurd e.symm E)).trans (h j u V)
theorem hit_same {l:List Od} {i:Nat} {o:Od} {q:Int} (h:o.left - q = 0):(l.set i { o with left:=o.left - q }).take i ++ (l.set i { o with left:=o.left - q }).drop (i + 1) = aN l i o q:=by
 have:o.left = q:=by omega
 rw [aN,if_pos this,List.take_set_of_le yb,List.drop_set_of_lt (by omega)]
theorem hit_less {l:List Od} {i:Nat} {o:Od} {q:Int} (h:o.left - q ≠ 0):l.set i { o with left:=o.left - q } = aN l i o q:=by
 have:o.left ≠ q:=by omega
 rw [aN,if_neg this]
def DH (S b off i n cap:Nat) (uz uJ q xC:Int) (base:Nat) (p:Prop) (W:World):Nat→Value→Prop
 | 0,v=>v = J S 0
 | 1,v=>v = I uz
 | 2,v=>v = .slice (some (Q b off)) n cap
 | 3,v=>v = I i
 | 4,v=>v = J b (off + i * 6)
 | 5,v=>v = J b (off + i * 6)
 | 6,v=>v = I uJ
 | 7,v=>v = I q
 | 8,v=>v = .slice (some (Q b off)) n cap
 | 9,v=>v = I i
 | 10,v=>v = J b (off + i * 6)
 | 11,v=>v = J b (off + i * 6 + 2)
 | 12,v=>v = I xC
 | 13,v=>v = .agg (yw 3 0 0 0 0 0 0 0 ⟨#[]⟩ uz uJ q xC 0).toArray
 | 14,v=>∃ c,v = J c 0∧base ≤ c∧c < W.heap.size∧W.there c 0 14∧(p→W.rangeAt c 0 (yw 3 0 0 0 0 0 0 0 ⟨#[]⟩ uz uJ q xC 0))
 | _,_=>True
theorem dh_grow {S b off i n cap:Nat} {uz uJ q xC:Int} {base:Nat} {p:Prop} {hj V':World} (E:yp hj V'):∀ j v,DH S b off i n cap uz uJ q xC base p hj j v→DH S b off i n cap uz uJ q xC base p V' j v:=by
 intro j v h
 match j with
 | 0 | 1 | 2 | 3 | 4 | 5 | 6 | 7 | 8 | 9 | 10 | 11 | 12 | 13=>exact h
 | 14=>obtain ⟨c,N,Y,h3,h4,h5⟩:=h; exact ⟨c,N,Y,yK h3 E.size,zo h4 E h3,fun hp=>zc (h5 hp) E h3⟩
 | j + 15=>trivial
theorem dh_last {S b off i n cap:Nat} {uz uJ q xC:Int} {base:Nat} {hj V':World} {v:Value}:∀ j,j ≠ 15→DH S b off i n cap uz uJ q xC base False hj j v→(j = 14→DH S b off i n cap uz uJ q xC base True V' 14 v)→DH S b off i n cap uz uJ q xC base True V' j v:=by
 intro j V h oD
 match j with
 | 0 | 1 | 2 | 3 | 4 | 5 | 6 | 7 | 8 | 9 | 10 | 11 | 12 | 13=>exact h
 | 14=>exact oD rfl
 | j + 15=>trivial
theorem hit_mid {hj w1:World} {v1:Value} {l:List Od} (xD:l ≠ []) (hl:l.length ≤ 1000) (h6:w1.ownsRow hj.heap.size 78 6 v1 (0 + l.length) ([] ++ l.flatMap Od.vs)) (h7:(hj.alloc (L #[] 78)).grownBy w1 (Value.slice (some (Q hj.heap.size 0)) 0 0).ownBlock) :
  ∃ g O,v1 = .slice (some (Q g 0)) l.length O∧l.length ≤ O∧hj.heap.size ≤ g∧g < w1.heap.size∧ORow w1 hj.heap.size v1 l∧yp hj w1:=by
 have Z:ORow w1 hj.heap.size v1 l:=by
  show w1.ownsRow _ _ _ _ l.length _
  simpa using h6
 obtain ⟨g,O,e,N,Y,h3⟩:=cB Z xD
 exact ⟨g,O,e,N,Y,h3,Z,(fw _ _).grown h7 (by rw [zj]; omega) (fun k hk=>by simp [Value.ownBlock] at hk; omega)⟩
theorem row_here {W:World} {B g n O i:Nat} {l:List Od} {o:Od} (h:ORow W B (.slice (some (Q g 0)) n O) l) (hl:l.length ≤ 1000) (hi:l[i]? = some o):W.rangeAt g (i * 6) o.vs∧∀ j,j < 6→W.frozen? (Q g (i * 6 + j)) = false:=by
 obtain ⟨a',c',e,_,hc⟩:=zK h (by omega)
 obtain ⟨b',qr,e2,_,hc⟩:=hc (by rintro rfl; simp at hi)
 rw [e2] at e
 simp only [Value.slice.injEq,Option.some.injEq,Addr.mk.injEq,and_true] at e
 obtain ⟨⟨rfl,rfl⟩,-⟩:=e
 refine ⟨by simpa using hc i o hi,fun j V=>?_⟩
 rcases h.2 with ⟨N,_⟩ | ⟨g',uB,xF,N,_,h3,h4,_,h5,_⟩
 ·cases N
 ·simp only [Value.slice.injEq,Option.some.injEq,Addr.mk.injEq,and_true] at N
  obtain ⟨rfl,-⟩:=N
  have hil:=(yH.1 hi).1
  have:=(bR h3 yb (i * 6 + j) (by rw [h5]; omega)).2
  rwa [Nat.zero_add] at this
theorem range_left {W:World} {S g k:Nat} {a0 a1 a2 a3 a4 a5 x y:Value} (h:W.rangeAt S 0 [a0,a1,a2,a3,a4,a5]) (hg:g ≠ S):((W.setCell (Q g k) x).setCell (Q S 3) y).rangeAt S 0 [a0,a1,a2,y,a4,a5]:=by
 have Z:∀ j,j ≠ 3→((W.setCell (Q g k) x).setCell (Q S 3) y).cell? (Q S j) = W.cell? (Q S j):=fun j V=>(yM _ _ _ _ (bY (fun e=>V e.symm))).trans (yM _ _ _ _ (fun e=>hg (congrArg Addr.block e)))
 intro j u V
 rw [Nat.zero_add]
 match j,V with
 | 0,V=>cases V; exact (Z 0 (by omega)).trans (h 0 _ rfl)
 | 1,V=>cases V; exact (Z 1 (by omega)).trans (h 1 _ rfl)
 | 2,V=>cases V; exact (Z 2 (by omega)).trans (h 2 _ rfl)
 | 3,V=>cases V; exact yN _ _ _ ((yM _ _ _ _ (fun e=>hg (congrArg Addr.block e))).trans (h 3 _ rfl))
 | 4,V=>cases V; exact (Z 4 (by omega)).trans (h 4 _ rfl)
 | 5,V=>cases V; exact (Z 5 (by omega)).trans (h 5 _ rfl)
 | j + 6,V=>simp at V
theorem range_far {W:World} {b o p k:Nat} {A:List Value} {x:Value} (h:W.rangeAt b o A) (E:p ≠ b):(W.setCell (Q p k) x).rangeAt b o A:=fun j u V =>
 (yM _ _ _ _ (fun e=>E (congrArg Addr.block e))).trans (h j u V)
theorem l04Hit_any (v:Value) (l:List Od) (t o:Od) (i:Nat) (w:World) (hr:RdR Od.vs 6 w v l) (hn:l.length ≤ 1000) (qQ:l[i]? = some o) (ht0:0 ≤ t.left) (ht1:t.left ≤ 1000000) (ho0:0 ≤ o.left) (kK:o.left ≤ 1000000) :
  Calls Tryz.prog 77 #[v,.agg (yx t.id t.side t.ticks t.left t.life t.tag).toArray,I i] w fun e w'=>∃ v',e = .returned (.tuple #[v',.agg (Od.vs { t with left:=t.left - min t.left o.left }).toArray,.agg (Ev.vs (trE t.id o.id (min t.left o.left) o.ticks)).toArray])∧ORow w' w.heap.size v' (aN l i o (min t.left o.left))∧yp w w':=by
 obtain ⟨i0,vA,uH,uI,uW⟩:=info_parts Tryz.infoOrder
 have hil:=(yH.1 qQ).1
 have xD:l ≠ []:=by rintro rfl; simp at qQ
 have HNE:=H xD
 obtain ⟨a,cap,rfl,xA,hc⟩:=hr
 obtain ⟨b,off,rfl,E,X⟩:=hc xD
 have jq:=H X
 have HIO:=H qQ
 obtain ⟨uz,um,xX,xP,ul,uY⟩:=t
 obtain ⟨uJ,vg,xC,xM,vf,qu⟩:=o
 simp only at ht0 ht1 ho0 kK ⊢
 generalize hq:min xP xM = q
 have hqa:0 ≤ q:=by omega
 have hqb:q ≤ xP:=by omega
 have hqc:q ≤ xM:=by omega
 have HQ:=H hq
 clear X hc qQ xD hq xA
 have xK:=zj w (L (yx uz um xX xP ul uY).toArray 78)
 have uf:((w.alloc (L (yx uz um xX xP ul uY).toArray 78)).alloc (L (yx 0 0 0 0 0 ⟨#[]⟩).toArray 78)).heap.size = w.heap.size + 1 + 1:=by rw [zj,xK]
 have jJ:(((w.alloc (L (yx uz um xX xP ul uY).toArray 78)).alloc (L (yx 0 0 0 0 0 ⟨#[]⟩).toArray 78)).alloc (L (yw 0 0 0 0 0 0 0 0 ⟨#[]⟩ 0 0 0 0 0).toArray 52)).heap.size = w.heap.size + 1 + 1 + 1:=by rw [zj,uf]
 have r1:=zn w (yx uz um xX xP ul uY) 78
 have t1:=zY w (yx uz um xX xP ul uY) 78
 have t2:=zY (w.alloc (L (yx uz um xX xP ul uY).toArray 78)) (yx 0 0 0 0 0 ⟨#[]⟩) 78
 have t3:=zY ((w.alloc (L (yx uz um xX xP ul uY).toArray 78)).alloc (L (yx 0 0 0 0 0 ⟨#[]⟩).toArray 78)) (yw 0 0 0 0 0 0 0 0 ⟨#[]⟩ 0 0 0 0 0) 52
 rw [xK] at t2
 rw [uf] at t3
 have b1:=fw w (L (yx uz um xX xP ul uY).toArray 78)
 have b2:Below (w.heap.size + 1) (w.alloc (L (yx uz um xX xP ul uY).toArray 78)) ((w.alloc (L (yx uz um xX xP ul uY).toArray 78)).alloc (L (yx 0 0 0 0 0 ⟨#[]⟩).toArray 78)):=(Below.refl _ _).alloc (by omega) _
 have b3:Below (w.heap.size + 1 + 1) ((w.alloc (L (yx uz um xX xP ul uY).toArray 78)).alloc (L (yx 0 0 0 0 0 ⟨#[]⟩).toArray 78)) (((w.alloc (L (yx uz um xX xP ul uY).toArray 78)).alloc (L (yx 0 0 0 0 0 ⟨#[]⟩).toArray 78)).alloc (L (yw 0 0 0 0 0 0 0 0 ⟨#[]⟩ 0 0 0 0 0).toArray 52)):=(Below.refl _ _).alloc (by omega) _
 have b23:=b2.trans (b3.mono (by omega))
 have HX:Hid (World.rangeAt _ w.heap.size 0 _∧World.there _ w.heap.size 0 6∧World.there _ (w.heap.size + 1) 0 6∧World.there _ (w.heap.size + 1 + 1) 0 14):=⟨zc r1 b23 (by omega),zo t1 b23 (by omega),zo t2 b3 (by omega),t3⟩
 have xN:=H (b1.trans (b23.mono (by omega)))
 have vU:=H jJ
 clear xK uf jJ r1 t1 t2 t3 b1 b2 b3 b23
 go_enter Tryz.func77,Tryz.ntmps77
 refine fD fun zb xU=>?_
 go_wp2_with fail
 refine U xU _ _ ?_
 clear xU
 generalize (((w.alloc (L (yx uz um xX xP ul uY).toArray 78)).alloc (L (yx 0 0 0 0 0 ⟨#[]⟩).toArray 78)).alloc (L (yw 0 0 0 0 0 0 0 0 ⟨#[]⟩ 0 0 0 0 0).toArray 52)) = xo at HX xN vU ⊢
 have HX:Hid (xo.rangeAt w.heap.size 0 (yx uz um xX xP ul uY)∧xo.there w.heap.size 0 6∧xo.there (w.heap.size + 1) 0 6∧xo.there (w.heap.size + 1 + 1) 0 14):=U HX
 have t3:xo.cell? (Q w.heap.size 3) = some (I xP):=(U HX).1 3 _ rfl
 have HCX:Hid (∀ j c,l[j]? = some c→xo.rangeAt b (off + j * 6) c.vs):=fun j c V=>zc (U jq j c V) (U xN) E
 have o3:xo.cell? (Q b (off + i * 6 + 3)) = some (I xM):=U HCX i _ (U HIO) 3 _ rfl
 have hil':(i:Int) < l.length:=by omega
 have hii:(0:Int) ≤ i:=by omega
 refine fD fun zb xU=>?_
 go_wp2_with fail
 go_quiet (fail)
 refine U xU _ _ ?_
 clear xU
 have hif:(if xM < xP then xM else xP) = q:=by have:=U HQ; split <;> omega
 simp only [hif]
 have uA:Hid ((xo.drewN nq).rangeAt w.heap.size 0 (yx uz um xX xP ul uY)∧(xo.drewN nq).there w.heap.size 0 6∧(xo.drewN nq).there (w.heap.size + 1) 0 6∧(xo.drewN nq).there (w.heap.size + 1 + 1) 0 14):=U HX
 have ue:Hid (yp w (xo.drewN nq)):=zV (U xN) _
 have pJ:Hid ((xo.drewN nq).heap.size = w.heap.size + 1 + 1 + 1):=U vU
 have HC1:Hid (∀ j c,l[j]? = some c→(xo.drewN nq).rangeAt b (off + j * 6) c.vs):=U HCX
 clear t3 o3 hif HX xN vU HCX
 generalize xo.drewN nq = h2 at uA ue pJ HC1 ⊢
 refine fD fun zb xU=>?_
 refine zm (RG h2 (fun f=>{ tmps:=#[.slice (some (Q b off)) l.length cap,.agg (yx uz um xX xP ul uY).toArray,I i,M,J w.heap.size 0,M,.slice none 0 0,J (w.heap.size + 1) 0,J (w.heap.size + 1 + 1) 0,I q,f 14,M,J w.heap.size 3,I xP,.slice (some (Q b off)) l.length cap,I i,J b (off + i * 6),J b (off + i * 6 + 3),I xM,I q,f 0,f 1,f 2,f 3,f 4,f 5,f 6,f 7,f 8,f 9,f 10,f 11,f 12,f 13,M,M,M,M,M,M,M,M,M,M,M,M,M,M,M,M,M,M,M,M,M,M,M,M,M,M,M,M,M,M,M,M,M,M,M,M],defers:=[] }) 15 (DH w.heap.size b off i l.length cap uz uJ q xC h2.heap.size)) (by kernel_rfl) ?_ ?_ ?_
 ·exact ⟨fun _=>M,rfl,⟨rfl,rfl,rfl,Nat.le_refl _,fun _ _=>rfl⟩,fun j V=>by rw [yJ] at V; split at V <;> simp at V⟩
 ·rintro x cs hj ⟨f,rfl,xl,hD⟩ hx xO
  have xq:=zN xO hx (acyc _ (by kernel_rfl))
  have qz:x[15]? = some true:=xq 15 (by simp)
  obtain ⟨c,e14,kB,jn,-,kC⟩:=hD 14 (xq 14 (by simp))
  have HCR:=H (kC qz)
  refine U xU _ _ ?_
  clear xU
  have HS:=U pJ
  have hsv:=xl.size
  have HXV:Hid (hj.rangeAt w.heap.size 0 (yx uz um xX xP ul uY)∧hj.there w.heap.size 0 6∧hj.there (w.heap.size + 1) 0 6∧hj.there (w.heap.size + 1 + 1) 0 14):=⟨zc (U uA).1 xl (by omega),zo (U uA).2.1 xl (by omega),zo (U uA).2.2.1 xl (by omega),zo (U uA).2.2.2 xl (by omega)⟩
  have xE:=H (fC (U ue) xl)
  have oT:b < h2.heap.size:=by omega
  have HCV:Hid (∀ j c,l[j]? = some c→hj.rangeAt b (off + j * 6) c.vs):=fun j c V=>zc (U HC1 j c V) xl oT
  have hcS:w.heap.size + 1 + 1 < c:=by omega
  simp only [e14]
  generalize f 0 = u20,f 1 = u21,f 2 = u22,f 3 = u23,f 4 = u24,f 5 = u25,f 6 = u26,f 7 = u27,f 8 = u28,f 9 = u29,f 10 = u30,f 11 = u31,f 12 = u32,f 13 = u33
  clear hD xq qz e14 kC xO hx xl kB uA ue HC1 pJ HS
  have HO0:=H (World.ownsRow_made (base:=hj.heap.size) (e:=78) (size:=6) hj #[] 0 yb (by decide) rfl)
  have qO:Hid (∀ j u,(l.flatMap Od.vs)[j]? = some u→(hj.alloc (L #[] 78)).cell? (((Q b off):Addr).add j) = some u):=fun j u hu=>by
   have h:=dv (W:=hj.alloc (L #[] 78)) (g:=b) (off:=off) (l:=l) (fun i c hi=>zc (U HCV i c hi) ((Below.refl hj.heap.size hj).alloc yb _) (by omega)) 0 l.length j u (by simpa using hu)
   simpa using h
  refine fD fun zb xU=>?_
  go_wp2_with (at_builtin; go_must (refine wpList_append_own _ rfl _ _ 32 rfl hj.heap.size 78 i0 _ 6 56 Tryz.underlying32 vA uH uI uW rfl (by decide) (.slice (some (Q hj.heap.size 0)) 0 0) 0 [] rfl (U HO0) (Q b off) l.length cap (l.flatMap Od.vs) rfl (by rw [zZ Od.len]) (U qO) (bZ l) (by unfold maxLen; omega) (by omega) (by simp) ?_); intro v1 w1 hown1 pS _; obtain ⟨g,O,rfl,uq,hVg,hgw,ho1',uk⟩:=hit_mid (U HNE) hn hown1 pS; have qW:=H ho1'; have ue:=H uk; clear hown1 pS ho1' uk)
  refine U xU _ _ ?_
  clear xU qO HO0
  have uA:Hid (w1.rangeAt w.heap.size 0 (yx uz um xX xP ul uY)∧w1.there w.heap.size 0 6∧w1.there (w.heap.size + 1) 0 6∧w1.there (w.heap.size + 1 + 1) 0 14):=⟨zc (U HXV).1 (U ue) (by omega),zo (U HXV).2.1 (U ue) (by omega),zo (U HXV).2.2.1 (U ue) (by omega),zo (U HXV).2.2.2 (U ue) (by omega)⟩
  have HE1:=H (zc (U HCR) (U ue) jn)
  have ub:=H ((U xE).trans ((U ue).mono (U xE).size))
  have uG:=row_here (U qW) hn (U HIO)
  have c3:w1.cell? (Q g (i * 6 + 3)) = some (I xM):=uG.1 3 _ rfl
  have f3:w1.frozen? (Q g (i * 6 + 3)) = false:=uG.2 3 (by omega)
  have t3:w1.cell? (Q w.heap.size 3) = some (I xP):=(U uA).1 3 _ rfl
  have s3:w1.frozen? (Q w.heap.size 3) = false:=by have:=((U uA).2.1 3 (by omega)).2; rwa [Nat.zero_add] at this
  have hgS:g ≠ w.heap.size:=by omega
  have hSg:w.heap.size ≠ g:=by omega
  have oK:-9223372036854775808 ≤ xM - q:=by omega
  have hq2:xM - q ≤ 9223372036854775807:=by omega
  have hq3:-9223372036854775808 ≤ xP - q:=by omega
  have hq4:xP - q ≤ 9223372036854775807:=by omega
  clear uG
  refine fD fun zb xU=>?_
  go_wp2_with fail
  refine U xU _ _ ?_
  clear xU
  refine fD fun zb xU=>?_
  go_wp2_with fail
  refine U xU _ _ ?_
  clear xU
  have HZO:Hid (ORow ((w1.setCell (Q g (i * 6 + 3)) (I (xM - q))).setCell (Q w.heap.size 3) (I (xP - q))) hj.heap.size (.slice (some (Q g 0)) l.length O) (l.set i ⟨uJ,vg,xC,xM - q,vf,qu⟩)):=bd (oRow_left (U qW) rfl (U HIO) (xM - q)).1 (by simp [Value.ownBlock]; omega) _ _
  have HZT:=H (range_left (k:=i * 6 + 3) (x:=I (xM - q)) (y:=I (xP - q)) (U uA).1 hgS)
  have HZE:=H (range_far (p:=w.heap.size) (k:=3) (x:=I (xP - q)) (range_far (p:=g) (k:=i * 6 + 3) (x:=I (xM - q)) (U HE1) (by omega)) (by omega))
  have qL:=H (ei (c:=w.heap.size) (j:=3) (u:=I (xP - q)) (ei (c:=g) (j:=i * 6 + 3) (u:=I (xM - q)) (U uA).2.2.1))
  have HZ2:=H (ei (c:=w.heap.size) (j:=3) (u:=I (xP - q)) (ei (c:=g) (j:=i * 6 + 3) (u:=I (xM - q)) (U uA).2.2.2))
  have HZB:=H (((U ub).setCell (p:=(Q g (i * 6 + 3))) (by simp; omega) (I (xM - q))).setCell (p:=(Q w.heap.size 3)) yb (I (xP - q)))
  have hgz:g < ((w1.setCell (Q g (i * 6 + 3)) (I (xM - q))).setCell (Q w.heap.size 3) (I (xP - q))).heap.size:=by simp [World.setCell]; exact hgw
  have z3:((w1.setCell (Q g (i * 6 + 3)) (I (xM - q))).setCell (Q w.heap.size 3) (I (xP - q))).cell? (Q g (i * 6 + 3)) = some (I (xM - q)):=(yM _ _ _ _ (fun e=>hSg (congrArg Addr.block e))).trans (yN _ _ _ c3)
  generalize ((w1.setCell (Q g (i * 6 + 3)) (I (xM - q))).setCell (Q w.heap.size 3) (I (xP - q))) = ho at HZO HZT HZE qL HZ2 HZB hgz z3 ⊢
  clear c3 f3 t3 s3 uA HE1 ub qW ue HXV HCR xE HCV hgw
  refine fD fun zb xU=>?_
  have HT:Hid (∀ (u0 u1 u2 u3 u5 u6 u9 u12 u13 u14 u15 u16 u17 u18 u19 u20 u21 u22 u23 u24 u25 u26 u27 u28 u29 u30 u31 u32 u33 u34 u35 u36 u37 u38 u39 u40 u41 u42 u43 u44 u45 u46 u47 u48 u49 u50 u51 u52 u53 u54 u55 u56 u57 u58 u59 u60 u61 u62 u63 u64 u65 u66 u67 u68 u69 v11:Value) (Z':World),ORow Z' (w.heap.size + 1 + 1 + 1) v11 (aN l i ⟨uJ,vg,xC,xM,vf,qu⟩ q)→yp w Z'→Z'.rangeAt w.heap.size 0 (yx uz um xX (xP - q) ul uY)→Z'.there (w.heap.size + 1) 0 6→Z'.there (w.heap.size + 1 + 1) 0 14→Z'.rangeAt c 0 (yw 3 0 0 0 0 0 0 0 ⟨#[]⟩ uz uJ q xC 0)→zb { tmps:=#[u0,u1,u2,u3,J w.heap.size 0,u5,u6,J (w.heap.size + 1) 0,J (w.heap.size + 1 + 1) 0,u9,J c 0,v11,u12,u13,u14,u15,u16,u17,u18,u19,u20,u21,u22,u23,u24,u25,u26,u27,u28,u29,u30,u31,u32,u33,u34,u35,u36,u37,u38,u39,u40,u41,u42,u43,u44,u45,u46,u47,u48,u49,u50,u51,u52,u53,u54,u55,u56,u57,u58,u59,u60,u61,u62,u63,u64,u65,u66,u67,u68,u69],defers:=[] } Z'):=by
   intro u0 u1 u2 u3 u5 u6 u9 u12 u13 u14 u15 u16 u17 u18 u19 u20 u21 u22 u23 u24 u25 u26 u27 u28 u29 u30 u31 u32 u33 u34 u35 u36 u37 u38 u39 u40 u41 u42 u43 u44 u45 u46 u47 u48 u49 u50 u51 u52 u53 u54 u55 u56 u57 u58 u59 u60 u61 u62 u63 u64 u65 u66 u67 u68 u69 v11 Z' hO hB hT N Y hE
   refine U xU _ _ ?_
   have HO:=H hO
   have HB:=H hB
   have HTT:=H hT
   have HE:=H hE
   have HH1:=H N
   have HH2:=H Y
   clear hO hB hT hE N Y xU
   obtain ⟨V0,pt⟩:∃ hj:World,hj = { Z' with drawn:=Z'.drawn + 1 }:=⟨_,rfl⟩
   have HO:Hid (ORow V0 (w.heap.size + 1 + 1 + 1) v11 (aN l i ⟨uJ,vg,xC,xM,vf,qu⟩ q)):=by rw [pt]; exact U HO
   have HB:Hid (yp w V0):=by rw [pt]; exact (U HB).trans ⟨rfl,rfl,rfl,Nat.le_refl _,fun _ _=>rfl⟩
   have HTT:Hid (V0.rangeAt w.heap.size 0 (yx uz um xX (xP - q) ul uY)):=by rw [pt]; exact U HTT
   have HE:Hid (V0.rangeAt c 0 (yw 3 0 0 0 0 0 0 0 ⟨#[]⟩ uz uJ q xC 0)):=by rw [pt]; exact U HE
   have HH1:Hid (V0.there (w.heap.size + 1) 0 6):=by rw [pt]; exact U HH1
   have HH2:Hid (V0.there (w.heap.size + 1 + 1) 0 14):=by rw [pt]; exact U HH2
   obtain ⟨V1,jD⟩:∃ hj:World,hj = V0.setCells (w.heap.size + 1) 0 (yx uz um xX (xP - q) ul uY):=⟨_,rfl⟩
   obtain ⟨V2,og⟩:∃ hj:World,hj = V1.setCells (w.heap.size + 1 + 1) 0 (yw 3 0 0 0 0 0 0 0 ⟨#[]⟩ uz uJ q xC 0):=⟨_,rfl⟩
   have qW:Hid (ORow V1 (w.heap.size + 1 + 1 + 1) v11 (aN l i ⟨uJ,vg,xC,xM,vf,qu⟩ q)):=by rw [jD]; exact dH (by omega) _ _ _ (U HO)
   have ue:Hid (yp w V1):=by rw [jD]; exact zi _ (by omega) _ _ _ (U HB)
   have vz:Hid (V1.rangeAt (w.heap.size + 1) 0 (yx uz um xX (xP - q) ul uY)):=by rw [jD]; exact yY V0 _ 0 _ (fun j V=>U HH1 j V)
   have HE1:Hid (V1.rangeAt c 0 (yw 3 0 0 0 0 0 0 0 ⟨#[]⟩ uz uJ q xC 0)):=by rw [jD]; exact eL (U HE) (by omega)
   have HH3:Hid (V1.there (w.heap.size + 1 + 1) 0 14):=by rw [jD]; exact xc (U HH2) _ _ _
   have HOE:Hid (ORow V2 w.heap.size v11 (aN l i ⟨uJ,vg,xC,xM,vf,qu⟩ q)):=by rw [og]; exact zS (dH (by omega) _ _ _ (U qW)) (by omega)
   have vp:Hid (yp w V2):=by rw [og]; exact zi _ (by omega) _ _ _ (U ue)
   have vY:Hid (V2.rangeAt (w.heap.size + 1 + 1) 0 (yw 3 0 0 0 0 0 0 0 ⟨#[]⟩ uz uJ q xC 0)):=by rw [og]; exact yY V1 _ 0 _ (fun j V=>U HH3 j V)
   have vz:Hid (V2.rangeAt (w.heap.size + 1) 0 (yx uz um xX (xP - q) ul uY)):=by rw [og]; exact eL (U vz) (by omega)
   have HV0:=H pt
   have HV1:=H jD
   have HV2:=H og
   clear pt jD og HO HB qW ue
   go_wp2_with fail
   refine zm (R8A (fun f=>{ tmps:=#[u0,u1,u2,u3,J w.heap.size 0,u5,f 3,J (w.heap.size + 1) 0,J (w.heap.size + 1 + 1) 0,u9,J c 0,v11,u12,u13,u14,u15,u16,u17,u18,u19,u20,u21,u22,u23,u24,u25,u26,u27,u28,u29,u30,u31,u32,u33,u34,u35,u36,u37,u38,u39,u40,u41,u42,u43,u44,u45,u46,u47,u48,u49,u50,u51,u52,u53,u54,u55,u56,u57,u58,u59,u60,u61,u62,u63,u64,u65,u66,f 0,f 1,f 2],defers:=[] }) v11 (.agg (yx uz um xX (xP - q) ul uY).toArray) (.agg (yw 3 0 0 0 0 0 0 0 ⟨#[]⟩ uz uJ q xC 0).toArray) V0 V1 V2) (by kernel_rfl) ?_ ?_ ?_
   ·exact ⟨fun j=>if j = 3 then u6 else if j = 0 then u67 else if j = 1 then u68 else u69,rfl,⟨by simp,by simp,by simp,by simp,by simp,fun _=>(U HV0).symm,by simp,by simp⟩⟩
   ·rintro x cs V' ⟨f,rfl,R⟩ hx xO
    have xq:=bT xO hx (by kernel_rfl)
    have e3:=R.f3 (xq 3 (by simp))
    have eW:=R.s2 (xq 4 (by simp)) (xq 5 (by simp))
    subst eW
    simp only [e3]
    clear R xq e3 xO hx
    obtain ⟨d0,d1,d2,d3,d4,d5⟩:=yD (U vz)
    obtain ⟨e0,e1,e2,e3,e4,e5,e6,e7,e8,e9,uO,uy,vQ,uQ⟩:=yG (U vY)
    go_wp2_with fail
    try simp only [Exit.inBlock,Exit.then]
    refine bodyPost_ret (by simp [results,Tryz.results77,go_sem,d0,d1,d2,d3,d4,d5,e0,e1,e2,e3,e4,e5,e6,e7,e8,e9,uO,uy,vQ,uQ]; try rfl) rfl ?_
    exact ⟨v11,rfl,U HOE,U vp⟩
   ·rintro x cs V' i' o' ⟨f,rfl,R⟩ X hx Z xr D
    have n5:i' < 5→x[5]? = some false:=fun xJ=>by
     rcases br hx (show 5 < 6 by omega) with h | h
     ·exact h
     ·have:=X 5 _ rfl h ⟨i',.phase⟩ (by rcases (by omega:i' = 0 ∨ i' = 1 ∨ i' = 2 ∨ i' = 3 ∨ i' = 4) with rfl | rfl | rfl | rfl | rfl <;> simp) rfl
      rw [xr] at this; cases this
    have n4:i' = 0 ∨ i' = 1 ∨ i' = 3→x[4]? = some false:=fun xJ=>by
     rcases br hx (show 4 < 6 by omega) with h | h
     ·exact h
     ·have:=X 4 _ rfl h ⟨i',.phase⟩ (by rcases xJ with rfl | rfl | rfl <;> simp) rfl
      rw [xr] at this; cases this
    have xu:=H R
    clear X
    match i',Z with
    | 0,Z =>
     obtain rfl:=yc Z
     clear D R
     rw [if_pos (by rfl)];unfold Oper.wp;go_simp
     exact ⟨upd f 0 v11,by simp [upd],r8_val (U xu) 0 _ (by omega) (fun _=>rfl) (by omega) (by omega) (by omega)⟩
    | 1,Z =>
     obtain rfl:=yc Z
     have eV:=R.s0 (n4 (by omega))
     subst eV
     obtain ⟨c0,c1,c2,c3,c4,c5⟩:=yD (U HTT)
     clear D R
     rw [if_pos (by rfl)];unfold Oper.wp;go_simp
     exact ⟨upd f 1 (.agg (yx uz um xX (xP - q) ul uY).toArray),by simp [upd],r8_val (U xu) 1 _ (by omega) (by omega) (fun _=>rfl) (by omega) (by omega)⟩
    | 2,Z =>
     obtain rfl:=yc Z
     have jj:Hid (V'.rangeAt c 0 (yw 3 0 0 0 0 0 0 0 ⟨#[]⟩ uz uJ q xC 0)):=by
      rcases br hx (show 4 < 6 by omega) with h | h
      ·rw [R.s0 h]; exact U HE
      ·rw [R.s1 h (n5 (by omega))]; exact U HE1
     obtain ⟨c0,c1,c2,c3,c4,c5,c6,c7,c8,c9,c10,c11,c12,c13⟩:=yG (U jj)
     clear D R
     rw [if_pos (by rfl)];unfold Oper.wp;go_simp
     exact ⟨upd f 2 (.agg (yw 3 0 0 0 0 0 0 0 ⟨#[]⟩ uz uJ q xC 0).toArray),by simp [upd],r8_val (U xu) 2 _ (by omega) (by omega) (by omega) (fun _=>rfl) (by omega)⟩
    | 3,Z =>
     obtain rfl:=yc Z
     have g0:=R.f0 (yf D 0 rfl)
     clear D R
     rw [if_pos (by rfl)];unfold Oper.wp;go_simp
     exact ⟨upd f 3 v11,by simp [upd,g0],r8_val (U xu) 3 _ (by omega) (by omega) (by omega) (by omega) (fun _=>rfl)⟩
    | 4,Z =>
     obtain rfl:=yc Z
     have g1:=R.f1 (yf D 1 rfl)
     have eV:=R.s0 xr
     subst eV
     have xZ:=U HH1
     obtain ⟨y0,z0,q0⟩:=zl xZ (j:=0) (by omega)
     obtain ⟨y1,z1,q1⟩:=zl xZ (j:=1) (by omega)
     obtain ⟨y2,z2,q2⟩:=zl xZ (j:=2) (by omega)
     obtain ⟨y3,z3,q3⟩:=zl xZ (j:=3) (by omega)
     obtain ⟨y4,z4,q4⟩:=zl xZ (j:=4) (by omega)
     obtain ⟨y5,z5,q5⟩:=zl xZ (j:=5) (by omega)
     have n5':=n5 (by omega)
     clear D R xZ
     rw [if_pos (by rfl)];unfold Oper.wp;go_simp
     have HR4:=r8_4 (U xu) xr n5'
     conv at HR4=>arg 9; rw [U HV1]
     exact ⟨f,by simp [g1],HR4⟩
    | 5,Z =>
     obtain rfl:=yc Z
     have g2:=R.f2 (yf D 2 rfl)
     have k4:x[4]? = some true:=D ⟨4,.chain⟩ (by simp) rfl
     have eV:=R.s1 k4 xr
     subst eV
     have xZ:=U HH3
     have vD:=H (r8_5 (U xu) k4 xr)
     clear xu R
     obtain ⟨y0,z0,q0⟩:=zl xZ (j:=0) (by omega)
     obtain ⟨y1,z1,q1⟩:=zl xZ (j:=1) (by omega)
     obtain ⟨y2,z2,q2⟩:=zl xZ (j:=2) (by omega)
     obtain ⟨y3,z3,q3⟩:=zl xZ (j:=3) (by omega)
     obtain ⟨y4,z4,q4⟩:=zl xZ (j:=4) (by omega)
     obtain ⟨y5,z5,q5⟩:=zl xZ (j:=5) (by omega)
     obtain ⟨y6,z6,q6⟩:=zl xZ (j:=6) (by omega)
     obtain ⟨y7,z7,q7⟩:=zl xZ (j:=7) (by omega)
     obtain ⟨y8,z8,q8⟩:=zl xZ (j:=8) (by omega)
     obtain ⟨y9,z9,q9⟩:=zl xZ (j:=9) (by omega)
     obtain ⟨y10,kU,q10⟩:=zl xZ (j:=10) (by omega)
     obtain ⟨y11,ow,q11⟩:=zl xZ (j:=11) (by omega)
     obtain ⟨y12,ox,q12⟩:=zl xZ (j:=12) (by omega)
     obtain ⟨y13,oy,q13⟩:=zl xZ (j:=13) (by omega)
     have hsf:=sfl
     clear D xZ
     rw [if_pos (by rfl)];unfold Oper.wp;go_simp
     have HR6:=U vD
     conv at HR6=>arg 9; rw [U HV2]
     exact ⟨upd f 5 (.agg (yw 3 0 0 0 0 0 0 0 ⟨#[]⟩ uz uJ q xC 0).toArray),by simp [upd,g2],HR6⟩
    | i' + 6,Z=>simp at Z
  clear xU
  by_cases hz:xM - q = 0
  ·have b0:(xM - q == 0) = true:=by simpa using hz
   have HH:=H (hit_same (l:=l) (i:=i) (o:=⟨uJ,vg,xC,xM,vf,qu⟩) hz)
   clear hz
   generalize hleft:l.set i ⟨uJ,vg,xC,xM - q,vf,qu⟩ = left at HZO HH
   have hll:left.length = l.length:=by rw [← hleft,List.length_set]
   clear hleft
   have HC7:Hid (∀ j c,left[j]? = some c→ho.rangeAt g (0 + j * 6) c.vs):=fun j c V=>by
    have:=(row_here (U HZO) (by omega) V).1
    rwa [Nat.zero_add]
   have hll1:l.length ≤ 1000:=hn
   have hicp:i ≤ O:=by omega
   have hi1:i + 1 ≤ l.length:=by omega
   have hi1':(i:Int) + 1 ≤ l.length:=by omega
   have hlcp:(l.length:Int) ≤ O:=by omega
   have h0i:(0:Int) ≤ (i:Int) + 1:=by omega
   go_wp2_with fail
   clear z3
   refine dI (R7A (.slice (some (Q g 0)) l.length O) ho (C7 (.slice (some (Q g 0)) l.length O) g l.length O i) (left.take i) (left.take i ++ left.drop (i + 1)) (fun f=>{ tmps:=#[.slice (some (Q b off)) l.length cap,.agg (yx uz um xX xP ul uY).toArray,I i,M,J w.heap.size 0,M,.slice none 0 0,J (w.heap.size + 1) 0,J (w.heap.size + 1 + 1) 0,I q,J c 0,f 10,J w.heap.size 3,I xP,.slice (some (Q b off)) l.length cap,I i,J b (off + i * 6),J b (off + i * 6 + 3),I xM,I q,u20,u21,u22,u23,u24,u25,u26,u27,u28,u29,u30,u31,u32,u33,.slice (some (Q hj.heap.size 0)) 0 0,.slice (some (Q b off)) l.length cap,.slice (some (Q g 0)) l.length O,.slice (some (Q g 0)) l.length O,I i,J g (i * 6),J g (i * 6 + 3),I xM,I q,I (xM - q),J g (i * 6),J g (i * 6 + 3),J w.heap.size 3,I xP,I q,I (xP - q),J w.heap.size 3,.slice (some (Q g 0)) l.length O,I i,J g (i * 6),J g (i * 6 + 3),I (xM - q),.bool true,f 0,f 1,f 2,f 3,f 4,f 5,f 6,f 7,f 8,f 9,M,M,M],defers:=[] })) (by kernel_rfl) ?_ ?_ ?_
   ·exact ⟨fun j=>if j = 10 then .slice (some (Q g 0)) l.length O else M,rfl,⟨⟨rfl,rfl,rfl,Nat.le_refl _,fun _ _=>rfl⟩,fun j V=>by rw [yJ] at V; split at V <;> simp at V,fun _=>rfl,by simp,by simp,by simp,by simp,by simp,by simp,by simp⟩⟩
   ·rintro x cs V' ⟨f,rfl,R⟩ hx xO
    have xq:=zN xO hx (acyc _ (by kernel_rfl))
    have k9:x[9]? = some true:=xq 9 (by simp)
    have k10:x[10]? = some true:=xq 10 (by simp)
    have HO9:=H (R.m9 k9)
    have uO:f 10 = f 9:=R.m10 k10
    have xE:=H R.bel
    simp only [uO]
    clear R xq k9 k10 uO xO hx
    have kO:=(U HZB).size
    refine U HT _ _ _ _ _ _ _ _ _ _ _ _ _ _ _ _ _ _ _ _ _ _ _ _ _ _ _ _ _ _ _ _ _ _ _ _ _ _ _ _ _ _ _ _ _ _ _ _ _ _ _ _ _ _ _ _ _ _ _ _ _ _ _ _ _ _ _ (by rw [← U HH]; exact zS (U HO9) (by omega)) ((U HZB).trans ((U xE).mono kO)) (zc (U HZT) (U xE) (by omega)) (zo (U qL) (U xE) (by omega)) (zo (U HZ2) (U xE) (by omega)) (zc (U HZE) (U xE) (by omega))
   ·rintro x cs hj i' o' ⟨f,rfl,R⟩ hx Z xr D
    have qE:=H R
    have n10:i' < 10→x[10]? = some false:=fun xJ=>by
     have uR:10 < x.length:=by rw [hx]; simp
     cases E:x[10]
     ·rw [yI uR,E]
     ·have:=R.o10 (by rw [yI uR,E]) i' xJ
      rw [xr] at this; cases this
    match i',Z with
    | 0,Z =>
     obtain rfl:=yc Z
     clear R D
     rw [if_pos (by rfl)];unfold Oper.wp;go_simp
     exact ⟨upd f 0 (.slice (some (Q hj.heap.size 0)) 0 0),by simp [upd],r7_0 (U qE) xr (fun _=>trivial)⟩
    | 1,Z =>
     obtain rfl:=yc Z
     have s5:f 10 = .slice (some (Q g 0)) l.length O:=R.s5 (n10 (by omega))
     clear R D
     rw [if_pos (by rfl)];unfold Oper.wp;go_simp
     exact ⟨upd f 1 (.slice (some (Q g 0)) l.length O),by simp [upd,s5],bH (U qE) 1 _ rfl (by decide) (by decide) (by decide) (by decide)⟩
    | 2,Z =>
     obtain rfl:=yc Z
     clear R D
     rw [if_pos (by rfl)];unfold Oper.wp;go_simp
     exact ⟨upd f 2 (I i),by simp [upd],bH (U qE) 2 _ rfl (by decide) (by decide) (by decide) (by decide)⟩
    | 3,Z =>
     obtain rfl:=yc Z
     have g1:C7 (.slice (some (Q g 0)) l.length O) g l.length O i 1 (f 1):=R.c 1 (yf D 1 rfl)
     have g2:C7 (.slice (some (Q g 0)) l.length O) g l.length O i 2 (f 2):=R.c 2 (yf D 2 rfl)
     simp only [C7] at g1 g2
     clear R D
     rw [if_pos (by rfl)];unfold Oper.wp;go_simp
     exact ⟨upd f 3 (.slice (some (Q g 0)) i O),by simp [upd,g1,g2],bH (U qE) 3 _ rfl (by decide) (by decide) (by decide) (by decide)⟩
    | 4,Z =>
     obtain rfl:=yc Z
     have g3:C7 (.slice (some (Q g 0)) l.length O) g l.length O i 3 (f 3):=R.c 3 (yf D 3 rfl)
     have k0:x[0]? = some true:=D ⟨0,.data⟩ (by simp) rfl
     have HCV:Hid (∀ j c,left[j]? = some c→hj.rangeAt g (0 + j * 6) c.vs):=fun j c V=>zc (U HC7 j c V) R.bel hgz
     simp only [C7] at g3
     clear R D
     rw [if_pos (by rfl)]
     refine wp_append_own hj (.tmp 57) (.tmp 60) 32 rfl ho.heap.size 78 i0 _ 6 56 Tryz.underlying32 vA uH uI uW rfl (by decide) (f 0) 0 [] rfl ((U qE).m0 k0 xr) (Q g 0) i O ((left.take i).flatMap Od.vs) g3 (by rw [zZ Od.len,List.length_take]; congr 1; omega) (by simpa using dv (W:=hj) (g:=g) (off:=0) (l:=left) (U HCV) 0 i) (bZ _) (by unfold maxLen; omega) (by omega) (U qE).bel.size ?_
     intro v' w' xS vG _
     refine ⟨upd f 4 v',rfl,r7_4 (U qE) k0 xr (fun _=>trivial) ?_ vG⟩
     have xA:(left.take i).length = 0 + i:=by rw [List.length_take]; omega
     show w'.ownsRow _ _ _ _ (left.take i).length _
     rw [xA]; simpa using xS
    | 5,Z =>
     obtain rfl:=yc Z
     have s5:f 10 = .slice (some (Q g 0)) l.length O:=R.s5 (n10 (by omega))
     clear R D
     rw [if_pos (by rfl)];unfold Oper.wp;go_simp
     exact ⟨upd f 5 (.slice (some (Q g 0)) l.length O),by simp [upd,s5],bH (U qE) 5 _ rfl (by decide) (by decide) (by decide) (by decide)⟩
    | 6,Z =>
     obtain rfl:=yc Z
     clear R D
     rw [if_pos (by rfl)];unfold Oper.wp;go_simp
     exact ⟨upd f 6 (I i),by simp [upd],bH (U qE) 6 _ rfl (by decide) (by decide) (by decide) (by decide)⟩
    | 7,Z =>
     obtain rfl:=yc Z
     have g6:C7 (.slice (some (Q g 0)) l.length O) g l.length O i 6 (f 6):=R.c 6 (yf D 6 rfl)
     simp only [C7] at g6
     have hwr:IntKind.i64.wrap ((i:Int) + 1) = (i:Int) + 1:=by rw [IntKind.wrap_i64]; omega
     clear R D
     rw [if_pos (by rfl)];unfold Oper.wp;go_simp
     exact ⟨upd f 7 (I ((i:Int) + 1)),by simp [upd,g6],bH (U qE) 7 _ rfl (by decide) (by decide) (by decide) (by decide)⟩
    | 8,Z =>
     obtain rfl:=yc Z
     have g5:C7 (.slice (some (Q g 0)) l.length O) g l.length O i 5 (f 5):=R.c 5 (yf D 5 rfl)
     have g7:C7 (.slice (some (Q g 0)) l.length O) g l.length O i 7 (f 7):=R.c 7 (yf D 7 rfl)
     simp only [C7] at g5 g7
     clear R D
     by_cases hcp:O = i + 1
     ·subst hcp
      rw [if_pos (by rfl)];unfold Oper.wp;go_simp
      exact ⟨upd f 8 (.slice (some (Q g 0)) (l.length - (i + 1)) 0),by simp [upd,g5,g7]; omega,bH (U qE) 8 _ ⟨_,_,rfl,fun h=>by omega⟩ (by decide) (by decide) (by decide) (by decide)⟩
     ·rw [if_pos (by rfl)];unfold Oper.wp;go_simp
      exact ⟨upd f 8 (.slice (some (Q g ((i + 1) * 6))) (l.length - (i + 1)) (O - (i + 1))),by simp [upd,g5,g7],bH (U qE) 8 _ ⟨_,_,rfl,fun h=>rfl⟩ (by decide) (by decide) (by decide) (by decide)⟩
    | 9,Z =>
     obtain rfl:=yc Z
     have g8:C7 (.slice (some (Q g 0)) l.length O) g l.length O i 8 (f 8):=R.c 8 (yf D 8 rfl)
     have k4:x[4]? = some true:=D ⟨4,.data⟩ (by simp) rfl
     have HCV:Hid (∀ j c,left[j]? = some c→hj.rangeAt g (0 + j * 6) c.vs):=fun j c V=>zc (U HC7 j c V) R.bel hgz
     obtain ⟨ad8,c8,g8,had⟩:=g8
     clear R D
     have hsrc8:∀ j u,((left.drop (i + 1)).flatMap Od.vs)[j]? = some u→hj.cell? (ad8.add j) = some u:=by
      intro j u hu
      by_cases xJ:i + 1 < l.length
      ·rw [had xJ]
       have:=dv (W:=hj) (g:=g) (off:=0) (l:=left) (U HCV) (i + 1) (l.length - (i + 1)) j u (by rw [xa (by simp [hll])]; exact hu)
       simpa using this
      ·rw [xb (by omega)] at hu; simp at hu
     rw [if_pos (by rfl)]
     refine wp_append_own hj (.tmp 61) (.tmp 65) 32 rfl ho.heap.size 78 i0 _ 6 56 Tryz.underlying32 vA uH uI uW rfl (by decide) (f 4) (left.take i).length ((left.take i).flatMap Od.vs) rfl ((U qE).m4 k4 xr) ad8 (l.length - (i + 1)) c8 ((left.drop (i + 1)).flatMap Od.vs) g8 (by rw [zZ Od.len,List.length_drop,hll]) hsrc8 (bZ _) (by unfold maxLen; rw [List.length_take]; omega) (by rw [List.length_take]; omega) (U qE).bel.size ?_
     intro v' w' xS vG _
     refine ⟨upd f 9 v',rfl,r7_9 (U qE) k4 xr (fun _=>trivial) ?_ vG⟩
     show w'.ownsRow _ _ _ _ (left.take i ++ left.drop (i + 1)).length _
     rw [yQ,List.length_drop,hll,List.flatMap_append]
     exact xS
    | 10,Z =>
     obtain rfl:=yc Z
     have hA:∀ j,j < 10→x[j]? = some true:=fun j V=>D ⟨j,.phase⟩ (by
      match j,V with
      | 0,_=>simp
      | 1,_=>simp
      | 2,_=>simp
      | 3,_=>simp
      | 4,_=>simp
      | 5,_=>simp
      | 6,_=>simp
      | 7,_=>simp
      | 8,_=>simp
      | 9,_=>simp
      | n + 10,h=>omega) rfl
     clear R D
     rw [if_pos (by rfl)];unfold Oper.wp;go_simp
     exact ⟨upd f 10 (f 9),by simp [upd],r7_10 (U qE) hA xr (fun _=>trivial)⟩
    | n + 11,Z=>simp at Z
  ·have b0:(xM - q == 0) = false:=by simpa using hz
   have HH:=H (hit_less (l:=l) (i:=i) (o:=⟨uJ,vg,xC,xM,vf,qu⟩) hz)
   clear hz
   go_wp2_with fail
   refine U HT _ _ _ _ _ _ _ _ _ _ _ _ _ _ _ _ _ _ _ _ _ _ _ _ _ _ _ _ _ _ _ _ _ _ _ _ _ _ _ _ _ _ _ _ _ _ _ _ _ _ _ _ _ _ _ _ _ _ _ _ _ _ _ _ _ _ _ (by rw [← U HH]; exact zS (U HZO) (by omega)) (U HZB) (U HZT) (U qL) (U HZ2) (U HZE)
 ·rintro x cs hj i' o' ⟨f,rfl,xl,hD⟩ X hx Z xr D
  have n15':i' < 15→¬ x[15]? = some true:=fun xJ vR=>by
   have vK:∀ j,j < 15→x[j]? = some true:=fun j V=>X 15 _ rfl vR ⟨j,.phase⟩ (by
    rcases (by omega:j = 0 ∨ j = 1 ∨ j = 2 ∨ j = 3 ∨ j = 4 ∨ j = 5 ∨ j = 6 ∨ j = 7 ∨ j = 8 ∨ j = 9 ∨ j = 10 ∨ j = 11 ∨ j = 12 ∨ j = 13 ∨ j = 14) with rfl | rfl | rfl | rfl | rfl | rfl | rfl | rfl | rfl | rfl | rfl | rfl | rfl | rfl | rfl <;> simp) rfl
   rw [vK i' xJ] at xr; cases xr
  clear X
  have xE:=H xl
  have HD:=H hD
  have hS1:=U pJ
  have oT:b < h2.heap.size:=by omega
  have z0:hj.cell? (Q w.heap.size 0) = some (I uz):=zc (U uA).1 xl (by omega) 0 _ rfl
  have o0:hj.cell? (Q b (off + i * 6)) = some (I uJ):=zc (U HC1 i _ (U HIO)) xl oT 0 _ rfl
  have o2:hj.cell? (Q b (off + i * 6 + 2)) = some (I xC):=zc (U HC1 i _ (U HIO)) xl oT 2 _ rfl
  clear xU hS1
  match i',Z with
  | 0,Z =>
   obtain rfl:=yc Z
   clear D hD xl
   rw [if_pos (by rfl)];unfold Oper.wp;go_simp
   exact ⟨upd f 0 (J w.heap.size 0),by simp [upd],zg (U xE) (U HD) (by decide) rfl⟩
  | 1,Z =>
   obtain rfl:=yc Z
   have g0:f 0 = J w.heap.size 0:=hD 0 (yf D 0 rfl)
   clear D hD xl
   rw [if_pos (by rfl)];unfold Oper.wp;go_simp
   exact ⟨upd f 1 (I uz),by simp [upd,g0],zg (U xE) (U HD) (by decide) rfl⟩
  | 2,Z | 8,Z =>
   obtain rfl:=yc Z
   clear D hD xl
   rw [if_pos (by rfl)];unfold Oper.wp;go_simp
   exact ⟨upd f _ (.slice (some (Q b off)) l.length cap),by simp [upd],zg (U xE) (U HD) (by decide) rfl⟩
  | 3,Z | 9,Z =>
   obtain rfl:=yc Z
   clear D hD xl
   rw [if_pos (by rfl)];unfold Oper.wp;go_simp
   exact ⟨upd f _ (I i),by simp [upd],zg (U xE) (U HD) (by decide) rfl⟩
  | 4,Z =>
   obtain rfl:=yc Z
   have g2:f 2 = .slice (some (Q b off)) l.length cap:=hD 2 (yf D 2 rfl)
   have g3:f 3 = I i:=hD 3 (yf D 3 rfl)
   clear D hD xl
   rw [if_pos (by rfl)];unfold Oper.wp;go_simp
   exact ⟨upd f 4 (J b (off + i * 6)),by simp [upd,g2,g3],zg (U xE) (U HD) (by decide) rfl⟩
  | 5,Z =>
   obtain rfl:=yc Z
   have g4:f 4 = J b (off + i * 6):=hD 4 (yf D 4 rfl)
   clear D hD xl
   rw [if_pos (by rfl)];unfold Oper.wp;go_simp
   exact ⟨upd f 5 (J b (off + i * 6)),by simp [upd,g4],zg (U xE) (U HD) (by decide) rfl⟩
  | 6,Z =>
   obtain rfl:=yc Z
   have g5:f 5 = J b (off + i * 6):=hD 5 (yf D 5 rfl)
   clear D hD xl
   rw [if_pos (by rfl)];unfold Oper.wp;go_simp
   exact ⟨upd f 6 (I uJ),by simp [upd,g5],zg (U xE) (U HD) (by decide) rfl⟩
  | 7,Z =>
   obtain rfl:=yc Z
   clear D hD xl
   rw [if_pos (by rfl)];unfold Oper.wp;go_simp
   exact ⟨upd f 7 (I q),by simp [upd],zg (U xE) (U HD) (by decide) rfl⟩
  | 10,Z =>
   obtain rfl:=yc Z
   have g8:f 8 = .slice (some (Q b off)) l.length cap:=hD 8 (yf D 8 rfl)
   have g9:f 9 = I i:=hD 9 (yf D 9 rfl)
   clear D hD xl
   rw [if_pos (by rfl)];unfold Oper.wp;go_simp
   exact ⟨upd f 10 (J b (off + i * 6)),by simp [upd,g8,g9],zg (U xE) (U HD) (by decide) rfl⟩
  | 11,Z =>
   obtain rfl:=yc Z
   have qn:f 10 = J b (off + i * 6):=hD 10 (yf D 10 rfl)
   clear D hD xl
   rw [if_pos (by rfl)];unfold Oper.wp;go_simp
   exact ⟨upd f 11 (J b (off + i * 6 + 2)),by simp [upd,qn],zg (U xE) (U HD) (by decide) rfl⟩
  | 12,Z =>
   obtain rfl:=yc Z
   have vE:f 11 = J b (off + i * 6 + 2):=hD 11 (yf D 11 rfl)
   clear D hD xl
   rw [if_pos (by rfl)];unfold Oper.wp;go_simp
   exact ⟨upd f 12 (I xC),by simp [upd,vE],zg (U xE) (U HD) (by decide) rfl⟩
  | 13,Z =>
   obtain rfl:=yc Z
   have g1:f 1 = I uz:=hD 1 (yf D 1 rfl)
   have g6:f 6 = I uJ:=hD 6 (yf D 6 rfl)
   have g7:f 7 = I q:=hD 7 (yf D 7 rfl)
   have ua:f 12 = I xC:=hD 12 (yf D 12 rfl)
   clear D hD xl
   rw [if_pos (by rfl)];unfold Oper.wp;go_simp
   exact ⟨upd f 13 (.agg (yw 3 0 0 0 0 0 0 0 ⟨#[]⟩ uz uJ q xC 0).toArray),by simp [upd,g1,g6,g7,ua],zg (U xE) (U HD) (by decide) rfl⟩
  | 14,Z =>
   obtain rfl:=yc Z
   have n15:=n15' (by omega)
   clear D hD xl
   rw [if_pos (by rfl)];unfold Oper.wp;go_simp
   have xy:=fw hj (L (yw 0 0 0 0 0 0 0 0 ⟨#[]⟩ 0 0 0 0 0).toArray 52)
   exact ⟨upd f 14 (J hj.heap.size 0),by simp [upd],bc (U xE) (U HD) xy (by decide) (dh_grow xy) ⟨hj.heap.size,rfl,(U xE).size,by rw [zj]; omega,zY hj (yw 0 0 0 0 0 0 0 0 ⟨#[]⟩ 0 0 0 0 0) _,fun h=>absurd h n15⟩⟩
  | 15,Z =>
   obtain rfl:=yc Z
   have qI:f 13 = .agg (yw 3 0 0 0 0 0 0 0 ⟨#[]⟩ uz uJ q xC 0).toArray:=hD 13 (yf D 13 rfl)
   obtain ⟨c,je,kB,jn,pv,-⟩:=hD 14 (yf D 14 rfl)
   have HCT:=H pv
   obtain ⟨y0,z20,n20⟩:=zl pv (j:=0) (by omega)
   obtain ⟨y1,z21,n21⟩:=zl pv (j:=1) (by omega)
   obtain ⟨y2,z22,n22⟩:=zl pv (j:=2) (by omega)
   obtain ⟨y3,z23,n23⟩:=zl pv (j:=3) (by omega)
   obtain ⟨y4,z24,n24⟩:=zl pv (j:=4) (by omega)
   obtain ⟨y5,z25,n25⟩:=zl pv (j:=5) (by omega)
   obtain ⟨y6,z26,n26⟩:=zl pv (j:=6) (by omega)
   obtain ⟨y7,z27,n27⟩:=zl pv (j:=7) (by omega)
   obtain ⟨y8,z28,n28⟩:=zl pv (j:=8) (by omega)
   obtain ⟨y9,z29,n29⟩:=zl pv (j:=9) (by omega)
   obtain ⟨y10,z30,n30⟩:=zl pv (j:=10) (by omega)
   obtain ⟨y11,z31,n31⟩:=zl pv (j:=11) (by omega)
   obtain ⟨y12,z32,n32⟩:=zl pv (j:=12) (by omega)
   obtain ⟨y13,z33,n33⟩:=zl pv (j:=13) (by omega)
   have hsf:=sfl
   clear D hD xl pv
   rw [if_pos (by rfl)];unfold Oper.wp;go_simp
   refine ⟨upd f 15 M,by simp [upd,qI,je],rgx_last (zi c kB (yw 3 0 0 0 0 0 0 0 ⟨#[]⟩ uz uJ q xC 0) 0 hj (U xE)) (U HD) xr (fun j V hxj h=>dh_last j V h (fun hj14=>?_)) trivial⟩
   subst hj14
   refine ⟨c,je,kB,by rw [cW]; exact jn,xc (U HCT) _ _ _,fun _=>yY hj c 0 _ (fun j V=>U HCT j V)⟩
  | n + 16,Z=>simp at Z
end Go.Proofs.YtnphbkgfjanmgaaGreatDoor
