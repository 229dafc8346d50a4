/-
  A taker trades with the order at a place, by the model: proved by walking the function.
-/
import Derived.Test.YtnphbkgfjanmgaaGreatDoorBj29
set_option linter.unusedVariables false
set_option maxHeartbeats 6400000
set_option maxRecDepth 100000
namespace Go.Proofs.YtnphbkgfjanmgaaGreatDoor
open Go.RowKit
structure R8 (v ta ea:Value) (V0 V1 V2:World) (x:List Bool) (f:Nat→Value) (W:World):Prop where
 f0:x[0]? = some true→f 0 = v
 f1:x[1]? = some true→f 1 = ta
 f2:x[2]? = some true→f 2 = ea
 f3:x[3]? = some true→f 3 = v
 f5:x[5]? = some true→f 5 = ea
 s0:x[4]? = some false→W = V0
 s1:x[4]? = some true→x[5]? = some false→W = V1
 s2:x[4]? = some true→x[5]? = some true→W = V2
def R8A (cl:(Nat→Value)→Act) (v ta ea:Value) (V0 V1 V2:World) (x:List Bool) (fG:Act) (W:World):Prop:=∃ f,fG = cl f∧R8 v ta ea V0 V1 V2 x f W
section
variable {v ta ea:Value} {V0 V1 V2:World} {x:List Bool} {f:Nat→Value} {W:World}
theorem r8_val (h:R8 v ta ea V0 V1 V2 x f W) (i:Nat) (u:Value) (hi:i < 4) (h0:i = 0→u = v) (Q:i = 1→u = ta) (E:i = 2→u = ea) (h3:i = 3→u = v):R8 v ta ea V0 V1 V2 (x.set i true) (upd f i u) W:=by
 have key:∀ j (y:Value),(x[j]? = some true→f j = y)→(i = j→u = y)→(x.set i true)[j]? = some true→upd f i u j = y:=by
  intro j y hf hu hx
  by_cases e:i = j
  ·subst e; rw [zr]; exact hu rfl
  ·rw [zl _ _ (fun e'=>e e'.symm)]; rw [gq e] at hx; exact hf hx
 refine ⟨key 0 v h.f0 h0,key 1 ta h.f1 Q,key 2 ea h.f2 E,key 3 v h.f3 h3,key 5 ea h.f5 (by omega),?_,?_,?_⟩ <;> rw [gq (show i ≠ 4 by omega)]
 ·exact h.s0
 ·rw [gq (show i ≠ 5 by omega)]; exact h.s1
 ·rw [gq (show i ≠ 5 by omega)]; exact h.s2
theorem r8_4 (h:R8 v ta ea V0 V1 V2 x f W) (h4:x[4]? = some false) (h5:x[5]? = some false):R8 v ta ea V0 V1 V2 (x.set 4 true) f V1:=by
 refine ⟨?_,?_,?_,?_,?_,?_,?_,?_⟩
 ·rw [gq (by omega)]; exact h.f0
 ·rw [gq (by omega)]; exact h.f1
 ·rw [gq (by omega)]; exact h.f2
 ·rw [gq (by omega)]; exact h.f3
 ·rw [gq (by omega)]; exact h.f5
 ·intro e; rw [gqs h4] at e; cases e
 ·exact fun _ _=>rfl
 ·intro _ e; rw [gq (by omega),h5] at e; cases e
theorem r8_5 (h:R8 v ta ea V0 V1 V2 x f W) (h4:x[4]? = some true) (h5:x[5]? = some false):R8 v ta ea V0 V1 V2 (x.set 5 true) (upd f 5 ea) V2:=by
 refine ⟨?_,?_,?_,?_,?_,?_,?_,?_⟩
 ·rw [gq (by omega),zl _ _ (by omega)]; exact h.f0
 ·rw [gq (by omega),zl _ _ (by omega)]; exact h.f1
 ·rw [gq (by omega),zl _ _ (by omega)]; exact h.f2
 ·rw [gq (by omega),zl _ _ (by omega)]; exact h.f3
 ·intro _; exact zr _ _ _
 ·intro e; rw [gq (by omega),h4] at e; cases e
 ·intro _ e; rw [gqs h5] at e; cases e
 ·exact fun _ _=>rfl
end
theorem dM {B b:Nat} {v:Value} {l:List Od} (Y:b < B):∀ (vs:List Value) (o:Nat) (W:World),ORow W B v l→ORow (W.setCells b o vs) B v l
 | [],_,_,h=>h
 | u :: us,o,W,h=>by rw [World.setCells]; exact dM Y us (o + 1) _ (oRow_set h Y o u)
theorem eS {W:World} {b o p k:Nat} {L vs:List Value} (h:W.rangeAt b o L) (Y:p ≠ b):(W.setCells p k vs).rangeAt b o L:=fun j u O =>
 (World.cell?_setCells_out p vs k W (U b (o + j)) (fun e=>absurd e.symm Y)).trans (h j u O)
theorem hit_same {l:List Od} {i:Nat} {o:Od} {q:Int} (h:o.left - q = 0):(l.set i { o with left:=o.left - q }).take i ++ (l.set i { o with left:=o.left - q }).drop (i + 1) = aR l i o q:=by
 have:o.left = q:=by omega
 rw [aR,if_pos this,List.take_set_of_le ya,List.drop_set_of_lt (by omega)]
theorem hit_less {l:List Od} {i:Nat} {o:Od} {q:Int} (h:o.left - q ≠ 0):l.set i { o with left:=o.left - q } = aR l i o q:=by
 have:o.left ≠ q:=by omega
 rw [aR,if_neg this]
def DH (S b off i n cap:Nat) (uz uN q xC:Int) (base:Nat) (p:Prop) (W:World):Nat→Value→Prop
 | 0,v=>v = J S 0
 | 1,v=>v = I uz
 | 2,v=>v = .slice (some (U b off)) n cap
 | 3,v=>v = I i
 | 4,v=>v = J b (off + i * 6)
 | 5,v=>v = J b (off + i * 6)
 | 6,v=>v = I uN
 | 7,v=>v = I q
 | 8,v=>v = .slice (some (U b off)) n cap
 | 9,v=>v = I i
 | 10,v=>v = J b (off + i * 6)
 | 11,v=>v = J b (off + i * 6 + 2)
 | 12,v=>v = I xC
 | 13,v=>v = .agg (yv 3 0 0 0 0 0 0 0 ⟨#[]⟩ uz uN q xC 0).toArray
 | 14,v=>∃ c,v = J c 0∧base ≤ c∧c < W.heap.size∧W.there c 0 14∧(p→W.rangeAt c 0 (yv 3 0 0 0 0 0 0 0 ⟨#[]⟩ uz uN q xC 0))
 | _,_=>True
theorem dh_grow {S b off i n cap:Nat} {uz uN q xC:Int} {base:Nat} {p:Prop} {xn V':World} (Y:yn xn V'):∀ j v,DH S b off i n cap uz uN q xC base p xn j v→DH S b off i n cap uz uN q xC base p V' j v:=by
 intro j v h
 match j with
 | 0 | 1 | 2 | 3 | 4 | 5 | 6 | 7 | 8 | 9 | 10 | 11 | 12 | 13=>exact h
 | 14=>obtain ⟨c,Q,E,h3,h4,h5⟩:=h; exact ⟨c,Q,E,yJ h3 Y.size,zo h4 Y h3,fun hp=>zc (h5 hp) Y h3⟩
 | j + 15=>trivial
theorem dh_last {S b off i n cap:Nat} {uz uN q xC:Int} {base:Nat} {xn V':World} {v:Value}:∀ j,j ≠ 15→DH S b off i n cap uz uN q xC base False xn j v→(j = 14→DH S b off i n cap uz uN q xC base True V' 14 v)→DH S b off i n cap uz uN q xC base True V' j v:=by
 intro j O h oH
 match j with
 | 0 | 1 | 2 | 3 | 4 | 5 | 6 | 7 | 8 | 9 | 10 | 11 | 12 | 13=>exact h
 | 14=>exact oH rfl
 | j + 15=>trivial
theorem hit_mid {xn w1:World} {v1:Value} {l:List Od} (xD:l ≠ []) (hl:l.length ≤ 1000) (h6:w1.ownsRow xn.heap.size 78 6 v1 (0 + l.length) ([] ++ l.flatMap Od.vs)) (h7:(xn.alloc (A #[] 78)).grownBy w1 (Value.slice (some (U xn.heap.size 0)) 0 0).ownBlock) :
  ∃ g X,v1 = .slice (some (U g 0)) l.length X∧l.length ≤ X∧xn.heap.size ≤ g∧g < w1.heap.size∧ORow w1 xn.heap.size v1 l∧yn xn w1:=by
 have N:ORow w1 xn.heap.size v1 l:=by
  show w1.ownsRow _ _ _ _ l.length _
  simpa using h6
 obtain ⟨g,X,e,Q,E,h3⟩:=cI N xD
 exact ⟨g,X,e,Q,E,h3,N,(fE _ _).grown h7 (by rw [zi]; omega) (fun k hk=>by simp [Value.ownBlock] at hk; omega)⟩
theorem row_here {W:World} {B g n X i:Nat} {l:List Od} {o:Od} (h:ORow W B (.slice (some (U g 0)) n X) l) (hl:l.length ≤ 1000) (hi:l[i]? = some o):W.rangeAt g (i * 6) o.vs∧∀ j,j < 6→W.frozen? (U g (i * 6 + j)) = false:=by
 obtain ⟨a',c',e,_,hc⟩:=zK h (by omega)
 obtain ⟨b',qu,e2,_,hc⟩:=hc (by rintro rfl; simp at hi)
 rw [e2] at e
 simp only [Value.slice.injEq,Option.some.injEq,Addr.mk.injEq,and_true] at e
 obtain ⟨⟨rfl,rfl⟩,-⟩:=e
 refine ⟨by simpa using hc i o hi,fun j O=>?_⟩
 rcases h.2 with ⟨Q,_⟩ | ⟨g',uD,xF,Q,_,h3,h4,_,h5,_⟩
 ·cases Q
 ·simp only [Value.slice.injEq,Option.some.injEq,Addr.mk.injEq,and_true] at Q
  obtain ⟨rfl,-⟩:=Q
  have hil:=(yG.1 hi).1
  have:=(bY h3 ya (i * 6 + j) (by rw [h5]; omega)).2
  rwa [Nat.zero_add] at this
theorem range_left {W:World} {S g k:Nat} {a0 a1 a2 a3 a4 a5 x y:Value} (h:W.rangeAt S 0 [a0,a1,a2,a3,a4,a5]) (hg:g ≠ S):((W.setCell (U g k) x).setCell (U S 3) y).rangeAt S 0 [a0,a1,a2,y,a4,a5]:=by
 have N:∀ j,j ≠ 3→((W.setCell (U g k) x).setCell (U S 3) y).cell? (U S j) = W.cell? (U S j):=fun j O=>(yL _ _ _ _ (cy (fun e=>O e.symm))).trans (yL _ _ _ _ (fun e=>hg (congrArg Addr.block e)))
 intro j u O
 rw [Nat.zero_add]
 match j,O with
 | 0,O=>cases O; exact (N 0 (by omega)).trans (h 0 _ rfl)
 | 1,O=>cases O; exact (N 1 (by omega)).trans (h 1 _ rfl)
 | 2,O=>cases O; exact (N 2 (by omega)).trans (h 2 _ rfl)
 | 3,O=>cases O; exact yM _ _ _ ((yL _ _ _ _ (fun e=>hg (congrArg Addr.block e))).trans (h 3 _ rfl))
 | 4,O=>cases O; exact (N 4 (by omega)).trans (h 4 _ rfl)
 | 5,O=>cases O; exact (N 5 (by omega)).trans (h 5 _ rfl)
 | j + 6,O=>simp at O
theorem range_far {W:World} {b o p k:Nat} {L:List Value} {x:Value} (h:W.rangeAt b o L) (Y:p ≠ b):(W.setCell (U p k) x).rangeAt b o L:=fun j u O =>
 (yL _ _ _ _ (fun e=>Y (congrArg Addr.block e))).trans (h j u O)
theorem l04Hit_any (v:Value) (l:List Od) (t o:Od) (i:Nat) (w:World) (hr:RdR Od.vs 6 w v l) (hn:l.length ≤ 1000) (qT:l[i]? = some o) (ht0:0 ≤ t.left) (ht1:t.left ≤ 1000000) (ho0:0 ≤ o.left) (kN:o.left ≤ 1000000) :
  Calls Tryz.prog 77 #[v,.agg (yw t.id t.side t.ticks t.left t.life t.tag).toArray,I i] w fun e w'=>∃ v',e = .returned (.tuple #[v',.agg (Od.vs { t with left:=t.left - min t.left o.left }).toArray,.agg (Ev.vs (trE t.id o.id (min t.left o.left) o.ticks)).toArray])∧ORow w' w.heap.size v' (aR l i o (min t.left o.left))∧yn w w':=by
 obtain ⟨i0,vA,uL,uM,uF⟩:=info_parts Tryz.infoOrder
 have hil:=(yG.1 qT).1
 have xD:l ≠ []:=by rintro rfl; simp at qT
 have HNE:=M xD
 obtain ⟨a,cap,rfl,xA,hc⟩:=hr
 obtain ⟨b,off,rfl,Y,V⟩:=hc xD
 have js:=M V
 have HIO:=M qT
 obtain ⟨uz,um,xW,xP,ul,uY⟩:=t
 obtain ⟨uN,vg,xC,xO,vf,qv⟩:=o
 simp only at ht0 ht1 ho0 kN ⊢
 generalize hq:min xP xO = q
 have hqa:0 ≤ q:=by omega
 have hqb:q ≤ xP:=by omega
 have hqc:q ≤ xO:=by omega
 have HQ:=M hq
 clear V hc qT xD hq xA
 have xK:=zi w (A (yw uz um xW xP ul uY).toArray 78)
 have ue:((w.alloc (A (yw uz um xW xP ul uY).toArray 78)).alloc (A (yw 0 0 0 0 0 ⟨#[]⟩).toArray 78)).heap.size = w.heap.size + 1 + 1:=by rw [zi,xK]
 have jJ:(((w.alloc (A (yw uz um xW xP ul uY).toArray 78)).alloc (A (yw 0 0 0 0 0 ⟨#[]⟩).toArray 78)).alloc (A (yv 0 0 0 0 0 0 0 0 ⟨#[]⟩ 0 0 0 0 0).toArray 52)).heap.size = w.heap.size + 1 + 1 + 1:=by rw [zi,ue]
 have r1:=zn w (yw uz um xW xP ul uY) 78
 have t1:=zY w (yw uz um xW xP ul uY) 78
 have t2:=zY (w.alloc (A (yw uz um xW xP ul uY).toArray 78)) (yw 0 0 0 0 0 ⟨#[]⟩) 78
 have t3:=zY ((w.alloc (A (yw uz um xW xP ul uY).toArray 78)).alloc (A (yw 0 0 0 0 0 ⟨#[]⟩).toArray 78)) (yv 0 0 0 0 0 0 0 0 ⟨#[]⟩ 0 0 0 0 0) 52
 rw [xK] at t2
 rw [ue] at t3
 have b1:=fE w (A (yw uz um xW xP ul uY).toArray 78)
 have b2:Below (w.heap.size + 1) (w.alloc (A (yw uz um xW xP ul uY).toArray 78)) ((w.alloc (A (yw uz um xW xP ul uY).toArray 78)).alloc (A (yw 0 0 0 0 0 ⟨#[]⟩).toArray 78)):=(Below.refl _ _).alloc (by omega) _
 have b3:Below (w.heap.size + 1 + 1) ((w.alloc (A (yw uz um xW xP ul uY).toArray 78)).alloc (A (yw 0 0 0 0 0 ⟨#[]⟩).toArray 78)) (((w.alloc (A (yw uz um xW xP ul uY).toArray 78)).alloc (A (yw 0 0 0 0 0 ⟨#[]⟩).toArray 78)).alloc (A (yv 0 0 0 0 0 0 0 0 ⟨#[]⟩ 0 0 0 0 0).toArray 52)):=(Below.refl _ _).alloc (by omega) _
 have b23:=b2.trans (b3.mono (by omega))
 have HX:Hid (World.rangeAt _ w.heap.size 0 _∧World.there _ w.heap.size 0 6∧World.there _ (w.heap.size + 1) 0 6∧World.there _ (w.heap.size + 1 + 1) 0 14):=⟨zc r1 b23 (by omega),zo t1 b23 (by omega),zo t2 b3 (by omega),t3⟩
 have xL:=M (b1.trans (b23.mono (by omega)))
 have vT:=M jJ
 clear xK ue jJ r1 t1 t2 t3 b1 b2 b3 b23
 go_enter Tryz.func77,Tryz.ntmps77
 refine fI fun hR xU=>?_
 go_wp2_with fail
 refine H xU _ _ ?_
 clear xU
 generalize (((w.alloc (A (yw uz um xW xP ul uY).toArray 78)).alloc (A (yw 0 0 0 0 0 ⟨#[]⟩).toArray 78)).alloc (A (yv 0 0 0 0 0 0 0 0 ⟨#[]⟩ 0 0 0 0 0).toArray 52)) = cp at HX xL vT ⊢
 have HX:Hid (cp.rangeAt w.heap.size 0 (yw uz um xW xP ul uY)∧cp.there w.heap.size 0 6∧cp.there (w.heap.size + 1) 0 6∧cp.there (w.heap.size + 1 + 1) 0 14):=H HX
 have t3:cp.cell? (U w.heap.size 3) = some (I xP):=(H HX).1 3 _ rfl
 have HCX:Hid (∀ j c,l[j]? = some c→cp.rangeAt b (off + j * 6) c.vs):=fun j c O=>zc (H js j c O) (H xL) Y
 have o3:cp.cell? (U b (off + i * 6 + 3)) = some (I xO):=H HCX i _ (H HIO) 3 _ rfl
 have hil':(i:Int) < l.length:=by omega
 have hii:(0:Int) ≤ i:=by omega
 refine fI fun hR xU=>?_
 go_wp2_with fail
 go_quiet (fail)
 refine H xU _ _ ?_
 clear xU
 have hif:(if xO < xP then xO else xP) = q:=by have:=H HQ; split <;> omega
 simp only [hif]
 have uB:Hid ((cp.drewN nq).rangeAt w.heap.size 0 (yw uz um xW xP ul uY)∧(cp.drewN nq).there w.heap.size 0 6∧(cp.drewN nq).there (w.heap.size + 1) 0 6∧(cp.drewN nq).there (w.heap.size + 1 + 1) 0 14):=H HX
 have ud:Hid (yn w (cp.drewN nq)):=zV (H xL) _
 have pM:Hid ((cp.drewN nq).heap.size = w.heap.size + 1 + 1 + 1):=H vT
 have HC1:Hid (∀ j c,l[j]? = some c→(cp.drewN nq).rangeAt b (off + j * 6) c.vs):=H HCX
 clear t3 o3 hif HX xL vT HCX
 generalize cp.drewN nq = hb at uB ud pM HC1 ⊢
 refine fI fun hR xU=>?_
 refine zk (RG hb (fun f=>{ tmps:=#[.slice (some (U b off)) l.length cap,.agg (yw uz um xW xP ul uY).toArray,I i,Z,J w.heap.size 0,Z,.slice none 0 0,J (w.heap.size + 1) 0,J (w.heap.size + 1 + 1) 0,I q,f 14,Z,J w.heap.size 3,I xP,.slice (some (U b off)) l.length cap,I i,J b (off + i * 6),J b (off + i * 6 + 3),I xO,I q,f 0,f 1,f 2,f 3,f 4,f 5,f 6,f 7,f 8,f 9,f 10,f 11,f 12,f 13,Z,Z,Z,Z,Z,Z,Z,Z,Z,Z,Z,Z,Z,Z,Z,Z,Z,Z,Z,Z,Z,Z,Z,Z,Z,Z,Z,Z,Z,Z,Z,Z,Z,Z,Z,Z],defers:=[] }) 15 (DH w.heap.size b off i l.length cap uz uN q xC hb.heap.size)) (by kernel_rfl) ?_ ?_ ?_
 ·exact ⟨fun _=>Z,rfl,⟨rfl,rfl,rfl,Nat.le_refl _,fun _ _=>rfl⟩,fun j O=>by rw [yI] at O; split at O <;> simp at O⟩
 ·rintro x fG xn ⟨f,rfl,xk,hD⟩ hx xN
  have xo:=zN xN hx (acyc _ (by kernel_rfl))
  have qD:x[15]? = some true:=xo 15 (by simp)
  obtain ⟨c,e14,kE,jp,-,kG⟩:=hD 14 (xo 14 (by simp))
  have HCR:=M (kG qD)
  refine H xU _ _ ?_
  clear xU
  have HS:=H pM
  have hsv:=xk.size
  have HXV:Hid (xn.rangeAt w.heap.size 0 (yw uz um xW xP ul uY)∧xn.there w.heap.size 0 6∧xn.there (w.heap.size + 1) 0 6∧xn.there (w.heap.size + 1 + 1) 0 14):=⟨zc (H uB).1 xk (by omega),zo (H uB).2.1 xk (by omega),zo (H uB).2.2.1 xk (by omega),zo (H uB).2.2.2 xk (by omega)⟩
  have xy:=M (fH (H ud) xk)
  have oX:b < hb.heap.size:=by omega
  have HCV:Hid (∀ j c,l[j]? = some c→xn.rangeAt b (off + j * 6) c.vs):=fun j c O=>zc (H HC1 j c O) xk oX
  have hcS:w.heap.size + 1 + 1 < c:=by omega
  simp only [e14]
  generalize f 0 = u20,f 1 = u21,f 2 = u22,f 3 = u23,f 4 = u24,f 5 = u25,f 6 = u26,f 7 = u27,f 8 = u28,f 9 = u29,f 10 = u30,f 11 = u31,f 12 = u32,f 13 = u33
  clear hD xo qD e14 kG xN hx xk kE uB ud HC1 pM HS
  have HO0:=M (World.ownsRow_made (base:=xn.heap.size) (e:=78) (size:=6) xn #[] 0 ya (by decide) rfl)
  have qP:Hid (∀ j u,(l.flatMap Od.vs)[j]? = some u→(xn.alloc (A #[] 78)).cell? (((U b off):Addr).add j) = some u):=fun j u hu=>by
   have h:=dF (W:=xn.alloc (A #[] 78)) (g:=b) (off:=off) (l:=l) (fun i c hi=>zc (H HCV i c hi) ((Below.refl xn.heap.size xn).alloc ya _) (by omega)) 0 l.length j u (by simpa using hu)
   simpa using h
  refine fI fun hR xU=>?_
  go_wp2_with (at_builtin; go_must (refine wpList_append_own _ rfl _ _ 32 rfl xn.heap.size 78 i0 _ 6 56 Tryz.underlying32 vA uL uM uF rfl (by decide) (.slice (some (U xn.heap.size 0)) 0 0) 0 [] rfl (H HO0) (U b off) l.length cap (l.flatMap Od.vs) rfl (by rw [zZ Od.len]) (H qP) (cz l) (by unfold maxLen; omega) (by omega) (by simp) ?_); intro v1 w1 hown1 pV _; obtain ⟨g,X,rfl,uq,hVg,hgw,ho1',ui⟩:=hit_mid (H HNE) hn hown1 pV; have jA:=M ho1'; have ud:=M ui; clear hown1 pV ho1' ui)
  refine H xU _ _ ?_
  clear xU qP HO0
  have uB:Hid (w1.rangeAt w.heap.size 0 (yw uz um xW xP ul uY)∧w1.there w.heap.size 0 6∧w1.there (w.heap.size + 1) 0 6∧w1.there (w.heap.size + 1 + 1) 0 14):=⟨zc (H HXV).1 (H ud) (by omega),zo (H HXV).2.1 (H ud) (by omega),zo (H HXV).2.2.1 (H ud) (by omega),zo (H HXV).2.2.2 (H ud) (by omega)⟩
  have HE1:=M (zc (H HCR) (H ud) jp)
  have ua:=M ((H xy).trans ((H ud).mono (H xy).size))
  have uK:=row_here (H jA) hn (H HIO)
  have c3:w1.cell? (U g (i * 6 + 3)) = some (I xO):=uK.1 3 _ rfl
  have f3:w1.frozen? (U g (i * 6 + 3)) = false:=uK.2 3 (by omega)
  have t3:w1.cell? (U w.heap.size 3) = some (I xP):=(H uB).1 3 _ rfl
  have s3:w1.frozen? (U w.heap.size 3) = false:=by have:=((H uB).2.1 3 (by omega)).2; rwa [Nat.zero_add] at this
  have hgS:g ≠ w.heap.size:=by omega
  have hSg:w.heap.size ≠ g:=by omega
  have oO:-9223372036854775808 ≤ xO - q:=by omega
  have hq2:xO - q ≤ 9223372036854775807:=by omega
  have hq3:-9223372036854775808 ≤ xP - q:=by omega
  have hq4:xP - q ≤ 9223372036854775807:=by omega
  clear uK
  refine fI fun hR xU=>?_
  go_wp2_with fail
  refine H xU _ _ ?_
  clear xU
  refine fI fun hR xU=>?_
  go_wp2_with fail
  refine H xU _ _ ?_
  clear xU
  have HZO:Hid (ORow ((w1.setCell (U g (i * 6 + 3)) (I (xO - q))).setCell (U w.heap.size 3) (I (xP - q))) xn.heap.size (.slice (some (U g 0)) l.length X) (l.set i ⟨uN,vg,xC,xO - q,vf,qv⟩)):=bp (oRow_left (H jA) rfl (H HIO) (xO - q)).1 (by simp [Value.ownBlock]; omega) _ _
  have HZT:=M (range_left (k:=i * 6 + 3) (x:=I (xO - q)) (y:=I (xP - q)) (H uB).1 hgS)
  have HZE:=M (range_far (p:=w.heap.size) (k:=3) (x:=I (xP - q)) (range_far (p:=g) (k:=i * 6 + 3) (x:=I (xO - q)) (H HE1) (by omega)) (by omega))
  have qM:=M (er (c:=w.heap.size) (j:=3) (u:=I (xP - q)) (er (c:=g) (j:=i * 6 + 3) (u:=I (xO - q)) (H uB).2.2.1))
  have HZ2:=M (er (c:=w.heap.size) (j:=3) (u:=I (xP - q)) (er (c:=g) (j:=i * 6 + 3) (u:=I (xO - q)) (H uB).2.2.2))
  have HZB:=M (((H ua).setCell (p:=(U g (i * 6 + 3))) (by simp; omega) (I (xO - q))).setCell (p:=(U w.heap.size 3)) ya (I (xP - q)))
  have hgz:g < ((w1.setCell (U g (i * 6 + 3)) (I (xO - q))).setCell (U w.heap.size 3) (I (xP - q))).heap.size:=by simp [World.setCell]; exact hgw
  have z3:((w1.setCell (U g (i * 6 + 3)) (I (xO - q))).setCell (U w.heap.size 3) (I (xP - q))).cell? (U g (i * 6 + 3)) = some (I (xO - q)):=(yL _ _ _ _ (fun e=>hSg (congrArg Addr.block e))).trans (yM _ _ _ c3)
  generalize ((w1.setCell (U g (i * 6 + 3)) (I (xO - q))).setCell (U w.heap.size 3) (I (xP - q))) = yl at HZO HZT HZE qM HZ2 HZB hgz z3 ⊢
  clear c3 f3 t3 s3 uB HE1 ua jA ud HXV HCR xy HCV hgw
  refine fI fun hR xU=>?_
  have HT:Hid (∀ (u0 u1 u2 u3 u5 u6 u9 u12 u13 u14 u15 u16 u17 u18 u19 u20 u21 u22 u23 u24 u25 u26 u27 u28 u29 u30 u31 u32 u33 u34 u35 u36 u37 u38 u39 u40 u41 u42 u43 u44 u45 u46 u47 u48 u49 u50 u51 u52 u53 u54 u55 u56 u57 u58 u59 u60 u61 u62 u63 u64 u65 u66 u67 u68 u69 v11:Value) (Z':World),ORow Z' (w.heap.size + 1 + 1 + 1) v11 (aR l i ⟨uN,vg,xC,xO,vf,qv⟩ q)→yn w Z'→Z'.rangeAt w.heap.size 0 (yw uz um xW (xP - q) ul uY)→Z'.there (w.heap.size + 1) 0 6→Z'.there (w.heap.size + 1 + 1) 0 14→Z'.rangeAt c 0 (yv 3 0 0 0 0 0 0 0 ⟨#[]⟩ uz uN q xC 0)→hR { tmps:=#[u0,u1,u2,u3,J w.heap.size 0,u5,u6,J (w.heap.size + 1) 0,J (w.heap.size + 1 + 1) 0,u9,J c 0,v11,u12,u13,u14,u15,u16,u17,u18,u19,u20,u21,u22,u23,u24,u25,u26,u27,u28,u29,u30,u31,u32,u33,u34,u35,u36,u37,u38,u39,u40,u41,u42,u43,u44,u45,u46,u47,u48,u49,u50,u51,u52,u53,u54,u55,u56,u57,u58,u59,u60,u61,u62,u63,u64,u65,u66,u67,u68,u69],defers:=[] } Z'):=by
   intro u0 u1 u2 u3 u5 u6 u9 u12 u13 u14 u15 u16 u17 u18 u19 u20 u21 u22 u23 u24 u25 u26 u27 u28 u29 u30 u31 u32 u33 u34 u35 u36 u37 u38 u39 u40 u41 u42 u43 u44 u45 u46 u47 u48 u49 u50 u51 u52 u53 u54 u55 u56 u57 u58 u59 u60 u61 u62 u63 u64 u65 u66 u67 u68 u69 v11 Z' hO hB hT Q E hE
   refine H xU _ _ ?_
   have HO:=M hO
   have HB:=M hB
   have HTT:=M hT
   have HE:=M hE
   have HH1:=M Q
   have HH2:=M E
   clear hO hB hT hE Q E xU
   obtain ⟨V0,px⟩:∃ xn:World,xn = { Z' with drawn:=Z'.drawn + 1 }:=⟨_,rfl⟩
   have HO:Hid (ORow V0 (w.heap.size + 1 + 1 + 1) v11 (aR l i ⟨uN,vg,xC,xO,vf,qv⟩ q)):=by rw [px]; exact H HO
   have HB:Hid (yn w V0):=by rw [px]; exact (H HB).trans ⟨rfl,rfl,rfl,Nat.le_refl _,fun _ _=>rfl⟩
   have HTT:Hid (V0.rangeAt w.heap.size 0 (yw uz um xW (xP - q) ul uY)):=by rw [px]; exact H HTT
   have HE:Hid (V0.rangeAt c 0 (yv 3 0 0 0 0 0 0 0 ⟨#[]⟩ uz uN q xC 0)):=by rw [px]; exact H HE
   have HH1:Hid (V0.there (w.heap.size + 1) 0 6):=by rw [px]; exact H HH1
   have HH2:Hid (V0.there (w.heap.size + 1 + 1) 0 14):=by rw [px]; exact H HH2
   obtain ⟨V1,jD⟩:∃ xn:World,xn = V0.setCells (w.heap.size + 1) 0 (yw uz um xW (xP - q) ul uY):=⟨_,rfl⟩
   obtain ⟨V2,om⟩:∃ xn:World,xn = V1.setCells (w.heap.size + 1 + 1) 0 (yv 3 0 0 0 0 0 0 0 ⟨#[]⟩ uz uN q xC 0):=⟨_,rfl⟩
   have jA:Hid (ORow V1 (w.heap.size + 1 + 1 + 1) v11 (aR l i ⟨uN,vg,xC,xO,vf,qv⟩ q)):=by rw [jD]; exact dM (by omega) _ _ _ (H HO)
   have ud:Hid (yn w V1):=by rw [jD]; exact zj _ (by omega) _ _ _ (H HB)
   have vj:Hid (V1.rangeAt (w.heap.size + 1) 0 (yw uz um xW (xP - q) ul uY)):=by rw [jD]; exact yX V0 _ 0 _ (fun j O=>H HH1 j O)
   have HE1:Hid (V1.rangeAt c 0 (yv 3 0 0 0 0 0 0 0 ⟨#[]⟩ uz uN q xC 0)):=by rw [jD]; exact eS (H HE) (by omega)
   have HH3:Hid (V1.there (w.heap.size + 1 + 1) 0 14):=by rw [jD]; exact xb (H HH2) _ _ _
   have HOE:Hid (ORow V2 w.heap.size v11 (aR l i ⟨uN,vg,xC,xO,vf,qv⟩ q)):=by rw [om]; exact zS (dM (by omega) _ _ _ (H jA)) (by omega)
   have vu:Hid (yn w V2):=by rw [om]; exact zj _ (by omega) _ _ _ (H ud)
   have vW:Hid (V2.rangeAt (w.heap.size + 1 + 1) 0 (yv 3 0 0 0 0 0 0 0 ⟨#[]⟩ uz uN q xC 0)):=by rw [om]; exact yX V1 _ 0 _ (fun j O=>H HH3 j O)
   have vj:Hid (V2.rangeAt (w.heap.size + 1) 0 (yw uz um xW (xP - q) ul uY)):=by rw [om]; exact eS (H vj) (by omega)
   have HV0:=M px
   have HV1:=M jD
   have HV2:=M om
   clear px jD om HO HB jA ud
   go_wp2_with fail
   refine zk (R8A (fun f=>{ tmps:=#[u0,u1,u2,u3,J w.heap.size 0,u5,f 3,J (w.heap.size + 1) 0,J (w.heap.size + 1 + 1) 0,u9,J c 0,v11,u12,u13,u14,u15,u16,u17,u18,u19,u20,u21,u22,u23,u24,u25,u26,u27,u28,u29,u30,u31,u32,u33,u34,u35,u36,u37,u38,u39,u40,u41,u42,u43,u44,u45,u46,u47,u48,u49,u50,u51,u52,u53,u54,u55,u56,u57,u58,u59,u60,u61,u62,u63,u64,u65,u66,f 0,f 1,f 2],defers:=[] }) v11 (.agg (yw uz um xW (xP - q) ul uY).toArray) (.agg (yv 3 0 0 0 0 0 0 0 ⟨#[]⟩ uz uN q xC 0).toArray) V0 V1 V2) (by kernel_rfl) ?_ ?_ ?_
   ·exact ⟨fun j=>if j = 3 then u6 else if j = 0 then u67 else if j = 1 then u68 else u69,rfl,⟨by simp,by simp,by simp,by simp,by simp,fun _=>(H HV0).symm,by simp,by simp⟩⟩
   ·rintro x fG V' ⟨f,rfl,K⟩ hx xN
    have xo:=bT xN hx (by kernel_rfl)
    have e3:=K.f3 (xo 3 (by simp))
    have eW:=K.s2 (xo 4 (by simp)) (xo 5 (by simp))
    subst eW
    simp only [e3]
    clear K xo e3 xN hx
    obtain ⟨d0,d1,d2,d3,d4,d5⟩:=yC (H vj)
    obtain ⟨e0,e1,e2,e3,e4,e5,e6,e7,e8,e9,uy,uk,uW,uA⟩:=yF (H vW)
    go_wp2_with fail
    try simp only [Exit.inBlock,Exit.then]
    refine bodyPost_ret (by simp [results,Tryz.results77,go_sem,d0,d1,d2,d3,d4,d5,e0,e1,e2,e3,e4,e5,e6,e7,e8,e9,uy,uk,uW,uA]; try rfl) rfl ?_
    exact ⟨v11,rfl,H HOE,H vu⟩
   ·rintro x fG V' i' o' ⟨f,rfl,K⟩ V hx N xq D
    have n5:i' < 5→x[5]? = some false:=fun xI=>by
     rcases bB hx (show 5 < 6 by omega) with h | h
     ·exact h
     ·have:=V 5 _ rfl h ⟨i',.phase⟩ (by rcases (by omega:i' = 0 ∨ i' = 1 ∨ i' = 2 ∨ i' = 3 ∨ i' = 4) with rfl | rfl | rfl | rfl | rfl <;> simp) rfl
      rw [xq] at this; cases this
    have n4:i' = 0 ∨ i' = 1 ∨ i' = 3→x[4]? = some false:=fun xI=>by
     rcases bB hx (show 4 < 6 by omega) with h | h
     ·exact h
     ·have:=V 4 _ rfl h ⟨i',.phase⟩ (by rcases xI with rfl | rfl | rfl <;> simp) rfl
      rw [xq] at this; cases this
    have xt:=M K
    clear V
    match i',N with
    | 0,N =>
     obtain rfl:=yb N
     clear D K
     rw [if_pos (by rfl)];unfold Oper.wp;go_simp
     exact ⟨upd f 0 v11,by simp [upd],r8_val (H xt) 0 _ (by omega) (fun _=>rfl) (by omega) (by omega) (by omega)⟩
    | 1,N =>
     obtain rfl:=yb N
     have eV:=K.s0 (n4 (by omega))
     subst eV
     obtain ⟨c0,c1,c2,c3,c4,c5⟩:=yC (H HTT)
     clear D K
     rw [if_pos (by rfl)];unfold Oper.wp;go_simp
     exact ⟨upd f 1 (.agg (yw uz um xW (xP - q) ul uY).toArray),by simp [upd],r8_val (H xt) 1 _ (by omega) (by omega) (fun _=>rfl) (by omega) (by omega)⟩
    | 2,N =>
     obtain rfl:=yb N
     have jm:Hid (V'.rangeAt c 0 (yv 3 0 0 0 0 0 0 0 ⟨#[]⟩ uz uN q xC 0)):=by
      rcases bB hx (show 4 < 6 by omega) with h | h
      ·rw [K.s0 h]; exact H HE
      ·rw [K.s1 h (n5 (by omega))]; exact H HE1
     obtain ⟨c0,c1,c2,c3,c4,c5,c6,c7,c8,c9,c10,c11,c12,c13⟩:=yF (H jm)
     clear D K
     rw [if_pos (by rfl)];unfold Oper.wp;go_simp
     exact ⟨upd f 2 (.agg (yv 3 0 0 0 0 0 0 0 ⟨#[]⟩ uz uN q xC 0).toArray),by simp [upd],r8_val (H xt) 2 _ (by omega) (by omega) (by omega) (fun _=>rfl) (by omega)⟩
    | 3,N =>
     obtain rfl:=yb N
     have g0:=K.f0 (ye D 0 rfl)
     clear D K
     rw [if_pos (by rfl)];unfold Oper.wp;go_simp
     exact ⟨upd f 3 v11,by simp [upd,g0],r8_val (H xt) 3 _ (by omega) (by omega) (by omega) (by omega) (fun _=>rfl)⟩
    | 4,N =>
     obtain rfl:=yb N
     have g1:=K.f1 (ye D 1 rfl)
     have eV:=K.s0 xq
     subst eV
     have xY:=H HH1
     obtain ⟨y0,z0,q0⟩:=zm xY (j:=0) (by omega)
     obtain ⟨y1,z1,q1⟩:=zm xY (j:=1) (by omega)
     obtain ⟨y2,z2,q2⟩:=zm xY (j:=2) (by omega)
     obtain ⟨y3,z3,q3⟩:=zm xY (j:=3) (by omega)
     obtain ⟨y4,z4,q4⟩:=zm xY (j:=4) (by omega)
     obtain ⟨y5,z5,q5⟩:=zm xY (j:=5) (by omega)
     have n5':=n5 (by omega)
     clear D K xY
     rw [if_pos (by rfl)];unfold Oper.wp;go_simp
     have pp:=r8_4 (H xt) xq n5'
     conv at pp=>arg 9; rw [H HV1]
     exact ⟨f,by simp [g1],pp⟩
    | 5,N =>
     obtain rfl:=yb N
     have g2:=K.f2 (ye D 2 rfl)
     have k4:x[4]? = some true:=D ⟨4,.chain⟩ (by simp) rfl
     have eV:=K.s1 k4 xq
     subst eV
     have xY:=H HH3
     have vD:=M (r8_5 (H xt) k4 xq)
     clear xt K
     obtain ⟨y0,z0,q0⟩:=zm xY (j:=0) (by omega)
     obtain ⟨y1,z1,q1⟩:=zm xY (j:=1) (by omega)
     obtain ⟨y2,z2,q2⟩:=zm xY (j:=2) (by omega)
     obtain ⟨y3,z3,q3⟩:=zm xY (j:=3) (by omega)
     obtain ⟨y4,z4,q4⟩:=zm xY (j:=4) (by omega)
     obtain ⟨y5,z5,q5⟩:=zm xY (j:=5) (by omega)
     obtain ⟨y6,z6,q6⟩:=zm xY (j:=6) (by omega)
     obtain ⟨y7,z7,q7⟩:=zm xY (j:=7) (by omega)
     obtain ⟨y8,z8,q8⟩:=zm xY (j:=8) (by omega)
     obtain ⟨y9,z9,q9⟩:=zm xY (j:=9) (by omega)
     obtain ⟨y10,kX,q10⟩:=zm xY (j:=10) (by omega)
     obtain ⟨y11,oz,q11⟩:=zm xY (j:=11) (by omega)
     obtain ⟨y12,oA,q12⟩:=zm xY (j:=12) (by omega)
     obtain ⟨y13,oB,q13⟩:=zm xY (j:=13) (by omega)
     have hsf:=sfl
     clear D xY
     rw [if_pos (by rfl)];unfold Oper.wp;go_simp
     have HR6:=H vD
     conv at HR6=>arg 9; rw [H HV2]
     exact ⟨upd f 5 (.agg (yv 3 0 0 0 0 0 0 0 ⟨#[]⟩ uz uN q xC 0).toArray),by simp [upd,g2],HR6⟩
    | i' + 6,N=>simp at N
  clear xU
  by_cases hz:xO - q = 0
  ·have b0:(xO - q == 0) = true:=by simpa using hz
   have HH:=M (hit_same (l:=l) (i:=i) (o:=⟨uN,vg,xC,xO,vf,qv⟩) hz)
   clear hz
   generalize hleft:l.set i ⟨uN,vg,xC,xO - q,vf,qv⟩ = left at HZO HH
   have hll:left.length = l.length:=by rw [← hleft,List.length_set]
   clear hleft
   have HC7:Hid (∀ j c,left[j]? = some c→yl.rangeAt g (0 + j * 6) c.vs):=fun j c O=>by
    have:=(row_here (H HZO) (by omega) O).1
    rwa [Nat.zero_add]
   have hll1:l.length ≤ 1000:=hn
   have hicp:i ≤ X:=by omega
   have hi1:i + 1 ≤ l.length:=by omega
   have hi1':(i:Int) + 1 ≤ l.length:=by omega
   have hlcp:(l.length:Int) ≤ X:=by omega
   have h0i:(0:Int) ≤ (i:Int) + 1:=by omega
   go_wp2_with fail
   clear z3
   refine dN (R7A (.slice (some (U g 0)) l.length X) yl (C7 (.slice (some (U g 0)) l.length X) g l.length X i) (left.take i) (left.take i ++ left.drop (i + 1)) (fun f=>{ tmps:=#[.slice (some (U b off)) l.length cap,.agg (yw uz um xW xP ul uY).toArray,I i,Z,J w.heap.size 0,Z,.slice none 0 0,J (w.heap.size + 1) 0,J (w.heap.size + 1 + 1) 0,I q,J c 0,f 10,J w.heap.size 3,I xP,.slice (some (U b off)) l.length cap,I i,J b (off + i * 6),J b (off + i * 6 + 3),I xO,I q,u20,u21,u22,u23,u24,u25,u26,u27,u28,u29,u30,u31,u32,u33,.slice (some (U xn.heap.size 0)) 0 0,.slice (some (U b off)) l.length cap,.slice (some (U g 0)) l.length X,.slice (some (U g 0)) l.length X,I i,J g (i * 6),J g (i * 6 + 3),I xO,I q,I (xO - q),J g (i * 6),J g (i * 6 + 3),J w.heap.size 3,I xP,I q,I (xP - q),J w.heap.size 3,.slice (some (U g 0)) l.length X,I i,J g (i * 6),J g (i * 6 + 3),I (xO - q),.bool true,f 0,f 1,f 2,f 3,f 4,f 5,f 6,f 7,f 8,f 9,Z,Z,Z],defers:=[] })) (by kernel_rfl) ?_ ?_ ?_
   ·exact ⟨fun j=>if j = 10 then .slice (some (U g 0)) l.length X else Z,rfl,⟨⟨rfl,rfl,rfl,Nat.le_refl _,fun _ _=>rfl⟩,fun j O=>by rw [yI] at O; split at O <;> simp at O,fun _=>rfl,by simp,by simp,by simp,by simp,by simp,by simp,by simp⟩⟩
   ·rintro x fG V' ⟨f,rfl,K⟩ hx xN
    have xo:=zN xN hx (acyc _ (by kernel_rfl))
    have k9:x[9]? = some true:=xo 9 (by simp)
    have k10:x[10]? = some true:=xo 10 (by simp)
    have HO9:=M (K.m9 k9)
    have uy:f 10 = f 9:=K.m10 k10
    have xy:=M K.bel
    simp only [uy]
    clear K xo k9 k10 uy xN hx
    have kS:=(H HZB).size
    refine H HT _ _ _ _ _ _ _ _ _ _ _ _ _ _ _ _ _ _ _ _ _ _ _ _ _ _ _ _ _ _ _ _ _ _ _ _ _ _ _ _ _ _ _ _ _ _ _ _ _ _ _ _ _ _ _ _ _ _ _ _ _ _ _ _ _ _ _ (by rw [← H HH]; exact zS (H HO9) (by omega)) ((H HZB).trans ((H xy).mono kS)) (zc (H HZT) (H xy) (by omega)) (zo (H qM) (H xy) (by omega)) (zo (H HZ2) (H xy) (by omega)) (zc (H HZE) (H xy) (by omega))
   ·rintro x fG xn i' o' ⟨f,rfl,K⟩ hx N xq D
    have qG:=M K
    have n10:i' < 10→x[10]? = some false:=fun xI=>by
     have uS:10 < x.length:=by rw [hx]; simp
     cases Y:x[10]
     ·rw [yH uS,Y]
     ·have:=K.o10 (by rw [yH uS,Y]) i' xI
      rw [xq] at this; cases this
    match i',N with
    | 0,N =>
     obtain rfl:=yb N
     clear K D
     rw [if_pos (by rfl)];unfold Oper.wp;go_simp
     exact ⟨upd f 0 (.slice (some (U xn.heap.size 0)) 0 0),by simp [upd],r7_0 (H qG) xq (fun _=>trivial)⟩
    | 1,N =>
     obtain rfl:=yb N
     have s5:f 10 = .slice (some (U g 0)) l.length X:=K.s5 (n10 (by omega))
     clear K D
     rw [if_pos (by rfl)];unfold Oper.wp;go_simp
     exact ⟨upd f 1 (.slice (some (U g 0)) l.length X),by simp [upd,s5],bN (H qG) 1 _ rfl (by decide) (by decide) (by decide) (by decide)⟩
    | 2,N =>
     obtain rfl:=yb N
     clear K D
     rw [if_pos (by rfl)];unfold Oper.wp;go_simp
     exact ⟨upd f 2 (I i),by simp [upd],bN (H qG) 2 _ rfl (by decide) (by decide) (by decide) (by decide)⟩
    | 3,N =>
     obtain rfl:=yb N
     have g1:C7 (.slice (some (U g 0)) l.length X) g l.length X i 1 (f 1):=K.c 1 (ye D 1 rfl)
     have g2:C7 (.slice (some (U g 0)) l.length X) g l.length X i 2 (f 2):=K.c 2 (ye D 2 rfl)
     simp only [C7] at g1 g2
     clear K D
     rw [if_pos (by rfl)];unfold Oper.wp;go_simp
     exact ⟨upd f 3 (.slice (some (U g 0)) i X),by simp [upd,g1,g2],bN (H qG) 3 _ rfl (by decide) (by decide) (by decide) (by decide)⟩
    | 4,N =>
     obtain rfl:=yb N
     have g3:C7 (.slice (some (U g 0)) l.length X) g l.length X i 3 (f 3):=K.c 3 (ye D 3 rfl)
     have k0:x[0]? = some true:=D ⟨0,.data⟩ (by simp) rfl
     have HCV:Hid (∀ j c,left[j]? = some c→xn.rangeAt g (0 + j * 6) c.vs):=fun j c O=>zc (H HC7 j c O) K.bel hgz
     simp only [C7] at g3
     clear K D
     rw [if_pos (by rfl)]
     refine wp_append_own xn (.tmp 57) (.tmp 60) 32 rfl yl.heap.size 78 i0 _ 6 56 Tryz.underlying32 vA uL uM uF rfl (by decide) (f 0) 0 [] rfl ((H qG).m0 k0 xq) (U g 0) i X ((left.take i).flatMap Od.vs) g3 (by rw [zZ Od.len,List.length_take]; congr 1; omega) (by simpa using dF (W:=xn) (g:=g) (off:=0) (l:=left) (H HCV) 0 i) (cz _) (by unfold maxLen; omega) (by omega) (H qG).bel.size ?_
     intro v' w' xR vG _
     refine ⟨upd f 4 v',rfl,r7_4 (H qG) k0 xq (fun _=>trivial) ?_ vG⟩
     have xA:(left.take i).length = 0 + i:=by rw [List.length_take]; omega
     show w'.ownsRow _ _ _ _ (left.take i).length _
     rw [xA]; simpa using xR
    | 5,N =>
     obtain rfl:=yb N
     have s5:f 10 = .slice (some (U g 0)) l.length X:=K.s5 (n10 (by omega))
     clear K D
     rw [if_pos (by rfl)];unfold Oper.wp;go_simp
     exact ⟨upd f 5 (.slice (some (U g 0)) l.length X),by simp [upd,s5],bN (H qG) 5 _ rfl (by decide) (by decide) (by decide) (by decide)⟩
    | 6,N =>
     obtain rfl:=yb N
     clear K D
     rw [if_pos (by rfl)];unfold Oper.wp;go_simp
     exact ⟨upd f 6 (I i),by simp [upd],bN (H qG) 6 _ rfl (by decide) (by decide) (by decide) (by decide)⟩
    | 7,N =>
     obtain rfl:=yb N
     have g6:C7 (.slice (some (U g 0)) l.length X) g l.length X i 6 (f 6):=K.c 6 (ye D 6 rfl)
     simp only [C7] at g6
     have hwr:IntKind.i64.wrap ((i:Int) + 1) = (i:Int) + 1:=by rw [IntKind.wrap_i64]; omega
     clear K D
     rw [if_pos (by rfl)];unfold Oper.wp;go_simp
     exact ⟨upd f 7 (I ((i:Int) + 1)),by simp [upd,g6],bN (H qG) 7 _ rfl (by decide) (by decide) (by decide) (by decide)⟩
    | 8,N =>
     obtain rfl:=yb N
     have g5:C7 (.slice (some (U g 0)) l.length X) g l.length X i 5 (f 5):=K.c 5 (ye D 5 rfl)
     have g7:C7 (.slice (some (U g 0)) l.length X) g l.length X i 7 (f 7):=K.c 7 (ye D 7 rfl)
     simp only [C7] at g5 g7
     clear K D
     by_cases hcp:X = i + 1
     ·subst hcp
      rw [if_pos (by rfl)];unfold Oper.wp;go_simp
      exact ⟨upd f 8 (.slice (some (U g 0)) (l.length - (i + 1)) 0),by simp [upd,g5,g7]; omega,bN (H qG) 8 _ ⟨_,_,rfl,fun h=>by omega⟩ (by decide) (by decide) (by decide) (by decide)⟩
     ·rw [if_pos (by rfl)];unfold Oper.wp;go_simp
      exact ⟨upd f 8 (.slice (some (U g ((i + 1) * 6))) (l.length - (i + 1)) (X - (i + 1))),by simp [upd,g5,g7],bN (H qG) 8 _ ⟨_,_,rfl,fun h=>rfl⟩ (by decide) (by decide) (by decide) (by decide)⟩
    | 9,N =>
     obtain rfl:=yb N
     have g8:C7 (.slice (some (U g 0)) l.length X) g l.length X i 8 (f 8):=K.c 8 (ye D 8 rfl)
     have k4:x[4]? = some true:=D ⟨4,.data⟩ (by simp) rfl
     have HCV:Hid (∀ j c,left[j]? = some c→xn.rangeAt g (0 + j * 6) c.vs):=fun j c O=>zc (H HC7 j c O) K.bel hgz
     obtain ⟨ad8,c8,g8,had⟩:=g8
     clear K D
     have hsrc8:∀ j u,((left.drop (i + 1)).flatMap Od.vs)[j]? = some u→xn.cell? (ad8.add j) = some u:=by
      intro j u hu
      by_cases xI:i + 1 < l.length
      ·rw [had xI]
       have:=dF (W:=xn) (g:=g) (off:=0) (l:=left) (H HCV) (i + 1) (l.length - (i + 1)) j u (by rw [yZ (by simp [hll])]; exact hu)
       simpa using this
      ·rw [xa (by omega)] at hu; simp at hu
     rw [if_pos (by rfl)]
     refine wp_append_own xn (.tmp 61) (.tmp 65) 32 rfl yl.heap.size 78 i0 _ 6 56 Tryz.underlying32 vA uL uM uF rfl (by decide) (f 4) (left.take i).length ((left.take i).flatMap Od.vs) rfl ((H qG).m4 k4 xq) ad8 (l.length - (i + 1)) c8 ((left.drop (i + 1)).flatMap Od.vs) g8 (by rw [zZ Od.len,List.length_drop,hll]) hsrc8 (cz _) (by unfold maxLen; rw [List.length_take]; omega) (by rw [List.length_take]; omega) (H qG).bel.size ?_
     intro v' w' xR vG _
     refine ⟨upd f 9 v',rfl,r7_9 (H qG) k4 xq (fun _=>trivial) ?_ vG⟩
     show w'.ownsRow _ _ _ _ (left.take i ++ left.drop (i + 1)).length _
     rw [yP,List.length_drop,hll,List.flatMap_append]
     exact xR
    | 10,N =>
     obtain rfl:=yb N
     have hA:∀ j,j < 10→x[j]? = some true:=fun j O=>D ⟨j,.phase⟩ (by
      match j,O with
      | 0,_=>simp
      | 1,_=>simp
      | 2,_=>simp
      | 3,_=>simp
      | 4,_=>simp
      | 5,_=>simp
      | 6,_=>simp
      | 7,_=>simp
      | 8,_=>simp
      | 9,_=>simp
      | n + 10,h=>omega) rfl
     clear K D
     rw [if_pos (by rfl)];unfold Oper.wp;go_simp
     exact ⟨upd f 10 (f 9),by simp [upd],r7_10 (H qG) hA xq (fun _=>trivial)⟩
    | n + 11,N=>simp at N
  ·have b0:(xO - q == 0) = false:=by simpa using hz
   have HH:=M (hit_less (l:=l) (i:=i) (o:=⟨uN,vg,xC,xO,vf,qv⟩) hz)
   clear hz
   go_wp2_with fail
   refine H HT _ _ _ _ _ _ _ _ _ _ _ _ _ _ _ _ _ _ _ _ _ _ _ _ _ _ _ _ _ _ _ _ _ _ _ _ _ _ _ _ _ _ _ _ _ _ _ _ _ _ _ _ _ _ _ _ _ _ _ _ _ _ _ _ _ _ _ (by rw [← H HH]; exact zS (H HZO) (by omega)) (H HZB) (H HZT) (H qM) (H HZ2) (H HZE)
 ·rintro x fG xn i' o' ⟨f,rfl,xk,hD⟩ V hx N xq D
  have n15':i' < 15→¬ x[15]? = some true:=fun xI vQ=>by
   have vK:∀ j,j < 15→x[j]? = some true:=fun j O=>V 15 _ rfl vQ ⟨j,.phase⟩ (by
    rcases (by omega:j = 0 ∨ j = 1 ∨ j = 2 ∨ j = 3 ∨ j = 4 ∨ j = 5 ∨ j = 6 ∨ j = 7 ∨ j = 8 ∨ j = 9 ∨ j = 10 ∨ j = 11 ∨ j = 12 ∨ j = 13 ∨ j = 14) with rfl | rfl | rfl | rfl | rfl | rfl | rfl | rfl | rfl | rfl | rfl | rfl | rfl | rfl | rfl <;> simp) rfl
   rw [vK i' xI] at xq; cases xq
  clear V
  have xy:=M xk
  have HD:=M hD
  have hS1:=H pM
  have oX:b < hb.heap.size:=by omega
  have z0:xn.cell? (U w.heap.size 0) = some (I uz):=zc (H uB).1 xk (by omega) 0 _ rfl
  have o0:xn.cell? (U b (off + i * 6)) = some (I uN):=zc (H HC1 i _ (H HIO)) xk oX 0 _ rfl
  have o2:xn.cell? (U b (off + i * 6 + 2)) = some (I xC):=zc (H HC1 i _ (H HIO)) xk oX 2 _ rfl
  clear xU hS1
  match i',N with
  | 0,N =>
   obtain rfl:=yb N
   clear D hD xk
   rw [if_pos (by rfl)];unfold Oper.wp;go_simp
   exact ⟨upd f 0 (J w.heap.size 0),by simp [upd],zf (H xy) (H HD) (by decide) rfl⟩
  | 1,N =>
   obtain rfl:=yb N
   have g0:f 0 = J w.heap.size 0:=hD 0 (ye D 0 rfl)
   clear D hD xk
   rw [if_pos (by rfl)];unfold Oper.wp;go_simp
   exact ⟨upd f 1 (I uz),by simp [upd,g0],zf (H xy) (H HD) (by decide) rfl⟩
  | 2,N | 8,N =>
   obtain rfl:=yb N
   clear D hD xk
   rw [if_pos (by rfl)];unfold Oper.wp;go_simp
   exact ⟨upd f _ (.slice (some (U b off)) l.length cap),by simp [upd],zf (H xy) (H HD) (by decide) rfl⟩
  | 3,N | 9,N =>
   obtain rfl:=yb N
   clear D hD xk
   rw [if_pos (by rfl)];unfold Oper.wp;go_simp
   exact ⟨upd f _ (I i),by simp [upd],zf (H xy) (H HD) (by decide) rfl⟩
  | 4,N =>
   obtain rfl:=yb N
   have g2:f 2 = .slice (some (U b off)) l.length cap:=hD 2 (ye D 2 rfl)
   have g3:f 3 = I i:=hD 3 (ye D 3 rfl)
   clear D hD xk
   rw [if_pos (by rfl)];unfold Oper.wp;go_simp
   exact ⟨upd f 4 (J b (off + i * 6)),by simp [upd,g2,g3],zf (H xy) (H HD) (by decide) rfl⟩
  | 5,N =>
   obtain rfl:=yb N
   have g4:f 4 = J b (off + i * 6):=hD 4 (ye D 4 rfl)
   clear D hD xk
   rw [if_pos (by rfl)];unfold Oper.wp;go_simp
   exact ⟨upd f 5 (J b (off + i * 6)),by simp [upd,g4],zf (H xy) (H HD) (by decide) rfl⟩
  | 6,N =>
   obtain rfl:=yb N
   have g5:f 5 = J b (off + i * 6):=hD 5 (ye D 5 rfl)
   clear D hD xk
   rw [if_pos (by rfl)];unfold Oper.wp;go_simp
   exact ⟨upd f 6 (I uN),by simp [upd,g5],zf (H xy) (H HD) (by decide) rfl⟩
  | 7,N =>
   obtain rfl:=yb N
   clear D hD xk
   rw [if_pos (by rfl)];unfold Oper.wp;go_simp
   exact ⟨upd f 7 (I q),by simp [upd],zf (H xy) (H HD) (by decide) rfl⟩
  | 10,N =>
   obtain rfl:=yb N
   have g8:f 8 = .slice (some (U b off)) l.length cap:=hD 8 (ye D 8 rfl)
   have g9:f 9 = I i:=hD 9 (ye D 9 rfl)
   clear D hD xk
   rw [if_pos (by rfl)];unfold Oper.wp;go_simp
   exact ⟨upd f 10 (J b (off + i * 6)),by simp [upd,g8,g9],zf (H xy) (H HD) (by decide) rfl⟩
  | 11,N =>
   obtain rfl:=yb N
   have qp:f 10 = J b (off + i * 6):=hD 10 (ye D 10 rfl)
   clear D hD xk
   rw [if_pos (by rfl)];unfold Oper.wp;go_simp
   exact ⟨upd f 11 (J b (off + i * 6 + 2)),by simp [upd,qp],zf (H xy) (H HD) (by decide) rfl⟩
  | 12,N =>
   obtain rfl:=yb N
   have vE:f 11 = J b (off + i * 6 + 2):=hD 11 (ye D 11 rfl)
   clear D hD xk
   rw [if_pos (by rfl)];unfold Oper.wp;go_simp
   exact ⟨upd f 12 (I xC),by simp [upd,vE],zf (H xy) (H HD) (by decide) rfl⟩
  | 13,N =>
   obtain rfl:=yb N
   have g1:f 1 = I uz:=hD 1 (ye D 1 rfl)
   have g6:f 6 = I uN:=hD 6 (ye D 6 rfl)
   have g7:f 7 = I q:=hD 7 (ye D 7 rfl)
   have xZ:f 12 = I xC:=hD 12 (ye D 12 rfl)
   clear D hD xk
   rw [if_pos (by rfl)];unfold Oper.wp;go_simp
   exact ⟨upd f 13 (.agg (yv 3 0 0 0 0 0 0 0 ⟨#[]⟩ uz uN q xC 0).toArray),by simp [upd,g1,g6,g7,xZ],zf (H xy) (H HD) (by decide) rfl⟩
  | 14,N =>
   obtain rfl:=yb N
   have n15:=n15' (by omega)
   clear D hD xk
   rw [if_pos (by rfl)];unfold Oper.wp;go_simp
   have xw:=fE xn (A (yv 0 0 0 0 0 0 0 0 ⟨#[]⟩ 0 0 0 0 0).toArray 52)
   exact ⟨upd f 14 (J xn.heap.size 0),by simp [upd],bm (H xy) (H HD) xw (by decide) (dh_grow xw) ⟨xn.heap.size,rfl,(H xy).size,by rw [zi]; omega,zY xn (yv 0 0 0 0 0 0 0 0 ⟨#[]⟩ 0 0 0 0 0) _,fun h=>absurd h n15⟩⟩
  | 15,N =>
   obtain rfl:=yb N
   have qJ:f 13 = .agg (yv 3 0 0 0 0 0 0 0 ⟨#[]⟩ uz uN q xC 0).toArray:=hD 13 (ye D 13 rfl)
   obtain ⟨c,jf,kE,jp,pz,-⟩:=hD 14 (ye D 14 rfl)
   have HCT:=M pz
   obtain ⟨y0,z20,n20⟩:=zm pz (j:=0) (by omega)
   obtain ⟨y1,z21,n21⟩:=zm pz (j:=1) (by omega)
   obtain ⟨y2,z22,n22⟩:=zm pz (j:=2) (by omega)
   obtain ⟨y3,z23,n23⟩:=zm pz (j:=3) (by omega)
   obtain ⟨y4,z24,n24⟩:=zm pz (j:=4) (by omega)
   obtain ⟨y5,z25,n25⟩:=zm pz (j:=5) (by omega)
   obtain ⟨y6,z26,n26⟩:=zm pz (j:=6) (by omega)
   obtain ⟨y7,z27,n27⟩:=zm pz (j:=7) (by omega)
   obtain ⟨y8,z28,n28⟩:=zm pz (j:=8) (by omega)
   obtain ⟨y9,z29,n29⟩:=zm pz (j:=9) (by omega)
   obtain ⟨y10,z30,n30⟩:=zm pz (j:=10) (by omega)
   obtain ⟨y11,z31,n31⟩:=zm pz (j:=11) (by omega)
   obtain ⟨y12,z32,n32⟩:=zm pz (j:=12) (by omega)
   obtain ⟨y13,z33,n33⟩:=zm pz (j:=13) (by omega)
   have hsf:=sfl
   clear D hD xk pz
   rw [if_pos (by rfl)];unfold Oper.wp;go_simp
   refine ⟨upd f 15 Z,by simp [upd,qJ,jf],rgx_last (zj c kE (yv 3 0 0 0 0 0 0 0 ⟨#[]⟩ uz uN q xC 0) 0 xn (H xy)) (H HD) xq (fun j O hxj h=>dh_last j O h (fun hj14=>?_)) trivial⟩
   subst hj14
   refine ⟨c,jf,kE,by rw [dm]; exact jp,xb (H HCT) _ _ _,fun _=>yX xn c 0 _ (fun j O=>H HCT j O)⟩
  | n + 16,N=>simp at N
end Go.Proofs.YtnphbkgfjanmgaaGreatDoor
