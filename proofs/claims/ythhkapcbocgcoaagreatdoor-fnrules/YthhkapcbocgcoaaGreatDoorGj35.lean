/-
  A taker trades with the order at a place, by the model: proved by walking the function.
-/
import Derived.Test.YthhkapcbocgcoaaGreatDoorGj34
set_option linter.unusedVariables false
set_option maxHeartbeats 6400000
set_option maxRecDepth 100000
namespace Go.Proofs.YthhkapcbocgcoaaGreatDoor
open Go.RowKit
structure R8 (v ta ea:Value) (V0 V1 V2:World) (x:List Bool) (f:Nat→Value) (W:World):Prop where
 f0:x[0]? = some true→f 0 = v
 f1:x[1]? = some true→f 1 = ta
 f2:x[2]? = some true→f 2 = ea
 f3:x[3]? = some true→f 3 = v
 f5:x[5]? = some true→f 5 = ea
 s0:x[4]? = some false→W = V0
 s1:x[4]? = some true→x[5]? = some false→W = V1
 s2:x[4]? = some true→x[5]? = some true→W = V2
def R8A (hR:(Nat→Value)→Act) (v ta ea:Value) (V0 V1 V2:World) (x:List Bool) (hb:Act) (W:World):Prop:=∃ f,hb = hR f∧R8 v ta ea V0 V1 V2 x f W
section
variable {v ta ea:Value} {V0 V1 V2:World} {x:List Bool} {f:Nat→Value} {W:World}
theorem r8_val (h:R8 v ta ea V0 V1 V2 x f W) (i:Nat) (u:Value) (hi:i < 4) (h0:i = 0→u = v) (Q:i = 1→u = ta) (D:i = 2→u = ea) (X:i = 3→u = v):R8 v ta ea V0 V1 V2 (x.set i true) (upd f i u) W:=by
 have key:∀ j (y:Value),(x[j]? = some true→f j = y)→(i = j→u = y)→(x.set i true)[j]? = some true→upd f i u j = y:=by
  intro j y hf hu hx
  by_cases e:i = j
  ·subst e; rw [zt]; exact hu rfl
  ·rw [zq _ _ (fun e'=>e e'.symm)]; rw [gq e] at hx; exact hf hx
 refine ⟨key 0 v h.f0 h0,key 1 ta h.f1 Q,key 2 ea h.f2 D,key 3 v h.f3 X,key 5 ea h.f5 (by omega),?_,?_,?_⟩ <;> rw [gq (show i ≠ 4 by omega)]
 ·exact h.s0
 ·rw [gq (show i ≠ 5 by omega)]; exact h.s1
 ·rw [gq (show i ≠ 5 by omega)]; exact h.s2
theorem r8_4 (h:R8 v ta ea V0 V1 V2 x f W) (h4:x[4]? = some false) (h5:x[5]? = some false):R8 v ta ea V0 V1 V2 (x.set 4 true) f V1:=by
 refine ⟨?_,?_,?_,?_,?_,?_,?_,?_⟩
 ·rw [gq (by omega)]; exact h.f0
 ·rw [gq (by omega)]; exact h.f1
 ·rw [gq (by omega)]; exact h.f2
 ·rw [gq (by omega)]; exact h.f3
 ·rw [gq (by omega)]; exact h.f5
 ·intro e; rw [gqs h4] at e; cases e
 ·exact fun _ _=>rfl
 ·intro _ e; rw [gq (by omega),h5] at e; cases e
theorem r8_5 (h:R8 v ta ea V0 V1 V2 x f W) (h4:x[4]? = some true) (h5:x[5]? = some false):R8 v ta ea V0 V1 V2 (x.set 5 true) (upd f 5 ea) V2:=by
 refine ⟨?_,?_,?_,?_,?_,?_,?_,?_⟩
 ·rw [gq (by omega),zq _ _ (by omega)]; exact h.f0
 ·rw [gq (by omega),zq _ _ (by omega)]; exact h.f1
 ·rw [gq (by omega),zq _ _ (by omega)]; exact h.f2
 ·rw [gq (by omega),zq _ _ (by omega)]; exact h.f3
 ·intro _; exact zt _ _ _
 ·intro e; rw [gq (by omega),h4] at e; cases e
 ·intro _ e; rw [gqs h5] at e; cases e
 ·exact fun _ _=>rfl
end
theorem ft {B b:Nat} {v:Value} {l:List Od} (A:b < B):∀ (vs:List Value) (o:Nat) (W:World),ORow W B v l→ORow (W.setCells b o vs) B v l
 | [],_,_,h=>h
 | u :: us,o,W,h=>by rw [World.setCells]; exact ft A us (o + 1) _ (dw h A o u)
theorem gE {W:World} {b o p k:Nat} {cs vs:List Value} (h:W.rangeAt b o cs) (A:p ≠ b):(W.setCells p k vs).rangeAt b o cs:=fun j u hj =>
 (World.cell?_setCells_out p vs k W (J b (o + j)) (fun e=>absurd e.symm A)).trans (h j u hj)
theorem hit_same {l:List Od} {i:Nat} {o:Od} {q:Int} (h:o.left - q = 0):(l.set i { o with left:=o.left - q }).take i ++ (l.set i { o with left:=o.left - q }).drop (i + 1) = bQ l i o q:=by
 have:o.left = q:=by omega
 rw [bQ,if_pos this,List.take_set_of_le hU,List.drop_set_of_lt (by omega)]
theorem hit_less {l:List Od} {i:Nat} {o:Od} {q:Int} (h:o.left - q ≠ 0):l.set i { o with left:=o.left - q } = bQ l i o q:=by
 have:o.left ≠ q:=by omega
 rw [bQ,if_neg this]
def DH (S b off i n cap:Nat) (ut uH q xv:Int) (base:Nat) (p:Prop) (W:World):Nat→Value→Prop
 | 0,v=>v = I S 0
 | 1,v=>v = H ut
 | 2,v=>v = .slice (some (J b off)) n cap
 | 3,v=>v = H i
 | 4,v=>v = I b (off + i * 6)
 | 5,v=>v = I b (off + i * 6)
 | 6,v=>v = H uH
 | 7,v=>v = H q
 | 8,v=>v = .slice (some (J b off)) n cap
 | 9,v=>v = H i
 | 10,v=>v = I b (off + i * 6)
 | 11,v=>v = I b (off + i * 6 + 2)
 | 12,v=>v = H xv
 | 13,v=>v = .agg (yv 3 0 0 0 0 0 0 0 ⟨#[]⟩ ut uH q xv 0).toArray
 | 14,v=>∃ c,v = I c 0∧base ≤ c∧c < W.heap.size∧W.there c 0 14∧(p→W.rangeAt c 0 (yv 3 0 0 0 0 0 0 0 ⟨#[]⟩ ut uH q xv 0))
 | _,_=>True
theorem dh_grow {S b off i n cap:Nat} {ut uH q xv:Int} {base:Nat} {p:Prop} {V V':World} (A:yn V V'):∀ j v,DH S b off i n cap ut uH q xv base p V j v→DH S b off i n cap ut uH q xv base p V' j v:=by
 intro j v h
 match j with
 | 0 | 1 | 2 | 3 | 4 | 5 | 6 | 7 | 8 | 9 | 10 | 11 | 12 | 13=>exact h
 | 14=>obtain ⟨c,Q,D,X,h4,h5⟩:=h; exact ⟨c,Q,D,yK X A.size,zk h4 A X,fun hp=>zc (h5 hp) A X⟩
 | j + 15=>trivial
theorem dh_last {S b off i n cap:Nat} {ut uH q xv:Int} {base:Nat} {V V':World} {v:Value}:∀ j,j ≠ 15→DH S b off i n cap ut uH q xv base False V j v→(j = 14→DH S b off i n cap ut uH q xv base True V' 14 v)→DH S b off i n cap ut uH q xv base True V' j v:=by
 intro j hj h oy
 match j with
 | 0 | 1 | 2 | 3 | 4 | 5 | 6 | 7 | 8 | 9 | 10 | 11 | 12 | 13=>exact h
 | 14=>exact oy rfl
 | j + 15=>trivial
theorem hit_mid {V w1:World} {v1:Value} {l:List Od} (xC:l ≠ []) (hl:l.length ≤ 1000) (h6:w1.ownsRow V.heap.size 65 6 v1 (0 + l.length) ([] ++ l.flatMap Od.vs)) (h7:(V.alloc (O #[] 65)).grownBy w1 (Value.slice (some (J V.heap.size 0)) 0 0).ownBlock) :
  ∃ g cp,v1 = .slice (some (J g 0)) l.length cp∧l.length ≤ cp∧V.heap.size ≤ g∧g < w1.heap.size∧ORow w1 V.heap.size v1 l∧yn V w1:=by
 have Y:ORow w1 V.heap.size v1 l:=by
  show w1.ownsRow _ _ _ _ l.length _
  simpa using h6
 obtain ⟨g,cp,e,Q,D,X⟩:=fE Y xC
 exact ⟨g,cp,e,Q,D,X,Y,(gZ _ _).grown h7 (by rw [zi]; omega) (fun k E=>by simp [Value.ownBlock] at E; omega)⟩
theorem fh {W:World} {B g n cp i:Nat} {l:List Od} {o:Od} (h:ORow W B (.slice (some (J g 0)) n cp) l) (hl:l.length ≤ 1000) (hi:l[i]? = some o):W.rangeAt g (i * 6) o.vs∧∀ j,j < 6→W.frozen? (J g (i * 6 + j)) = false:=by
 obtain ⟨a',c',e,_,hc⟩:=zV h (by omega)
 obtain ⟨b',jQ,e2,_,hc⟩:=hc (by rintro rfl; simp at hi)
 rw [e2] at e
 simp only [Value.slice.injEq,Option.some.injEq,Addr.mk.injEq,and_true] at e
 obtain ⟨⟨rfl,rfl⟩,-⟩:=e
 refine ⟨by simpa using hc i o hi,fun j hj=>?_⟩
 rcases h.2 with ⟨Q,_⟩ | ⟨g',jJ,xz,Q,_,X,h4,_,h5,_⟩
 ·cases Q
 ·simp only [Value.slice.injEq,Option.some.injEq,Addr.mk.injEq,and_true] at Q
  obtain ⟨rfl,-⟩:=Q
  have hil:=(yH.1 hi).1
  have:=(eC X hU (i * 6 + j) (by rw [h5]; omega)).2
  rwa [Nat.zero_add] at this
theorem range_left {W:World} {S g k:Nat} {a0 a1 a2 a3 a4 a5 x y:Value} (h:W.rangeAt S 0 [a0,a1,a2,a3,a4,a5]) (hg:g ≠ S):((W.setCell (J g k) x).setCell (J S 3) y).rangeAt S 0 [a0,a1,a2,y,a4,a5]:=by
 have Y:∀ j,j ≠ 3→((W.setCell (J g k) x).setCell (J S 3) y).cell? (J S j) = W.cell? (J S j):=fun j hj=>(yM _ _ _ _ (bZ (fun e=>hj e.symm))).trans (yM _ _ _ _ (fun e=>hg (congrArg Addr.block e)))
 intro j u hj
 rw [Nat.zero_add]
 match j,hj with
 | 0,hj=>cases hj; exact (Y 0 (by omega)).trans (h 0 _ rfl)
 | 1,hj=>cases hj; exact (Y 1 (by omega)).trans (h 1 _ rfl)
 | 2,hj=>cases hj; exact (Y 2 (by omega)).trans (h 2 _ rfl)
 | 3,hj=>cases hj; exact yN _ _ _ ((yM _ _ _ _ (fun e=>hg (congrArg Addr.block e))).trans (h 3 _ rfl))
 | 4,hj=>cases hj; exact (Y 4 (by omega)).trans (h 4 _ rfl)
 | 5,hj=>cases hj; exact (Y 5 (by omega)).trans (h 5 _ rfl)
 | j + 6,hj=>simp at hj
theorem range_far {W:World} {b o p k:Nat} {cs:List Value} {x:Value} (h:W.rangeAt b o cs) (A:p ≠ b):(W.setCell (J p k) x).rangeAt b o cs:=fun j u hj =>
 (yM _ _ _ _ (fun e=>A (congrArg Addr.block e))).trans (h j u hj)
theorem l04Hit_any (v:Value) (l:List Od) (t o:Od) (i:Nat) (w:World) (hr:RdR Od.vs 6 w v l) (hn:l.length ≤ 1000) (jC:l[i]? = some o) (ht0:0 ≤ t.left) (ht1:t.left ≤ 1000000) (ho0:0 ≤ o.left) (qA:o.left ≤ 1000000) :
  Calls Tryz.prog 70 #[v,.agg (yw t.id t.side t.ticks t.left t.life t.tag).toArray,H i] w fun e w'=>∃ v',e = .returned (.tuple #[v',.agg (Od.vs { t with left:=t.left - min t.left o.left }).toArray,.agg (Ev.vs (trE t.id o.id (min t.left o.left) o.ticks)).toArray])∧ORow w' w.heap.size v' (bQ l i o (min t.left o.left))∧yn w w':=by
 obtain ⟨i0,uJ,uD,uz,uM⟩:=info_parts Tryz.infoOrder
 have hil:=(yH.1 jC).1
 have xC:l ≠ []:=by rintro rfl; simp at jC
 have HNE:=M xC
 obtain ⟨a,cap,rfl,xD,hc⟩:=hr
 obtain ⟨b,off,rfl,A,xo⟩:=hc xC
 have kH:=M xo
 have HIO:=M jC
 obtain ⟨ut,uf,xX,xJ,ue,uP⟩:=t
 obtain ⟨uH,uR,xv,xH,uQ,qr⟩:=o
 simp only at ht0 ht1 ho0 qA ⊢
 generalize hq:min xJ xH = q
 have hqa:0 ≤ q:=by omega
 have hqb:q ≤ xJ:=by omega
 have hqc:q ≤ xH:=by omega
 have HQ:=M hq
 clear xo hc jC xC hq xD
 have xF:=zi w (O (yw ut uf xX xJ ue uP).toArray 65)
 have ug:((w.alloc (O (yw ut uf xX xJ ue uP).toArray 65)).alloc (O (yw 0 0 0 0 0 ⟨#[]⟩).toArray 65)).heap.size = w.heap.size + 1 + 1:=by rw [zi,xF]
 have jZ:(((w.alloc (O (yw ut uf xX xJ ue uP).toArray 65)).alloc (O (yw 0 0 0 0 0 ⟨#[]⟩).toArray 65)).alloc (O (yv 0 0 0 0 0 0 0 0 ⟨#[]⟩ 0 0 0 0 0).toArray 37)).heap.size = w.heap.size + 1 + 1 + 1:=by rw [zi,ug]
 have r1:=zm w (yw ut uf xX xJ ue uP) 65
 have t1:=zM w (yw ut uf xX xJ ue uP) 65
 have t2:=zM (w.alloc (O (yw ut uf xX xJ ue uP).toArray 65)) (yw 0 0 0 0 0 ⟨#[]⟩) 65
 have t3:=zM ((w.alloc (O (yw ut uf xX xJ ue uP).toArray 65)).alloc (O (yw 0 0 0 0 0 ⟨#[]⟩).toArray 65)) (yv 0 0 0 0 0 0 0 0 ⟨#[]⟩ 0 0 0 0 0) 37
 rw [xF] at t2
 rw [ug] at t3
 have b1:=gZ w (O (yw ut uf xX xJ ue uP).toArray 65)
 have b2:Below (w.heap.size + 1) (w.alloc (O (yw ut uf xX xJ ue uP).toArray 65)) ((w.alloc (O (yw ut uf xX xJ ue uP).toArray 65)).alloc (O (yw 0 0 0 0 0 ⟨#[]⟩).toArray 65)):=(Below.refl _ _).alloc (by omega) _
 have b3:Below (w.heap.size + 1 + 1) ((w.alloc (O (yw ut uf xX xJ ue uP).toArray 65)).alloc (O (yw 0 0 0 0 0 ⟨#[]⟩).toArray 65)) (((w.alloc (O (yw ut uf xX xJ ue uP).toArray 65)).alloc (O (yw 0 0 0 0 0 ⟨#[]⟩).toArray 65)).alloc (O (yv 0 0 0 0 0 0 0 0 ⟨#[]⟩ 0 0 0 0 0).toArray 37)):=(Below.refl _ _).alloc (by omega) _
 have b23:=b2.trans (b3.mono (by omega))
 have HX:Hid (World.rangeAt _ w.heap.size 0 _∧World.there _ w.heap.size 0 6∧World.there _ (w.heap.size + 1) 0 6∧World.there _ (w.heap.size + 1 + 1) 0 14):=⟨zc r1 b23 (by omega),zk t1 b23 (by omega),zk t2 b3 (by omega),t3⟩
 have xG:=M (b1.trans (b23.mono (by omega)))
 have ji:=M jZ
 clear xF ug jZ r1 t1 t2 t3 b1 b2 b3 b23
 go_enter Tryz.func70,Tryz.ntmps70
 refine ic fun xh xK=>?_
 go_wp2_with fail
 refine U xK _ _ ?_
 clear xK
 generalize (((w.alloc (O (yw ut uf xX xJ ue uP).toArray 65)).alloc (O (yw 0 0 0 0 0 ⟨#[]⟩).toArray 65)).alloc (O (yv 0 0 0 0 0 0 0 0 ⟨#[]⟩ 0 0 0 0 0).toArray 37)) = h3 at HX xG ji ⊢
 have HX:Hid (h3.rangeAt w.heap.size 0 (yw ut uf xX xJ ue uP)∧h3.there w.heap.size 0 6∧h3.there (w.heap.size + 1) 0 6∧h3.there (w.heap.size + 1 + 1) 0 14):=U HX
 have t3:h3.cell? (J w.heap.size 3) = some (H xJ):=(U HX).1 3 _ rfl
 have HCX:Hid (∀ j c,l[j]? = some c→h3.rangeAt b (off + j * 6) c.vs):=fun j c hj=>zc (U kH j c hj) (U xG) A
 have o3:h3.cell? (J b (off + i * 6 + 3)) = some (H xH):=U HCX i _ (U HIO) 3 _ rfl
 have hil':(i:Int) < l.length:=by omega
 have hii:(0:Int) ≤ i:=by omega
 refine ic fun xh xK=>?_
 go_wp2_with fail
 go_quiet (fail)
 refine U xK _ _ ?_
 clear xK
 have hif:(if xH < xJ then xH else xJ) = q:=by have:=U HQ; split <;> omega
 simp only [hif]
 have vw:Hid ((h3.drewN nq).rangeAt w.heap.size 0 (yw ut uf xX xJ ue uP)∧(h3.drewN nq).there w.heap.size 0 6∧(h3.drewN nq).there (w.heap.size + 1) 0 6∧(h3.drewN nq).there (w.heap.size + 1 + 1) 0 14):=U HX
 have xU:Hid (yn w (h3.drewN nq)):=dI (U xG) _
 have aB:Hid ((h3.drewN nq).heap.size = w.heap.size + 1 + 1 + 1):=U ji
 have oW:Hid (∀ j c,l[j]? = some c→(h3.drewN nq).rangeAt b (off + j * 6) c.vs):=U HCX
 clear t3 o3 hif HX xG ji HCX
 generalize h3.drewN nq = ho at vw xU aB oW ⊢
 refine ic fun xh xK=>?_
 refine zn (RG ho (fun f=>{ tmps:=#[.slice (some (J b off)) l.length cap,.agg (yw ut uf xX xJ ue uP).toArray,H i,Z,I w.heap.size 0,Z,.slice none 0 0,I (w.heap.size + 1) 0,I (w.heap.size + 1 + 1) 0,H q,f 14,Z,I w.heap.size 3,H xJ,.slice (some (J b off)) l.length cap,H i,I b (off + i * 6),I b (off + i * 6 + 3),H xH,H q,f 0,f 1,f 2,f 3,f 4,f 5,f 6,f 7,f 8,f 9,f 10,f 11,f 12,f 13,Z,Z,Z,Z,Z,Z,Z,Z,Z,Z,Z,Z,Z,Z,Z,Z,Z,Z,Z,Z,Z,Z,Z,Z,Z,Z,Z,Z,Z,Z,Z,Z,Z,Z,Z,Z],defers:=[] }) 15 (DH w.heap.size b off i l.length cap ut uH q xv ho.heap.size)) (by kernel_rfl) ?_ ?_ ?_
 ·exact ⟨fun _=>Z,rfl,⟨rfl,rfl,rfl,Nat.le_refl _,fun _ _=>rfl⟩,fun j hj=>by rw [yJ] at hj; split at hj <;> simp at hj⟩
 ·rintro x hb V ⟨f,rfl,xi,hD⟩ hx xN
  have xp:=zX xN hx (acyc _ (by kernel_rfl))
  have k15:x[15]? = some true:=xp 15 (by simp)
  obtain ⟨c,e14,kT,js,-,hcr⟩:=hD 14 (xp 14 (by simp))
  have HCR:=M (hcr k15)
  refine U xK _ _ ?_
  clear xK
  have HS:=U aB
  have hsv:=xi.size
  have HXV:Hid (V.rangeAt w.heap.size 0 (yw ut uf xX xJ ue uP)∧V.there w.heap.size 0 6∧V.there (w.heap.size + 1) 0 6∧V.there (w.heap.size + 1 + 1) 0 14):=⟨zc (U vw).1 xi (by omega),zk (U vw).2.1 xi (by omega),zk (U vw).2.2.1 xi (by omega),zk (U vw).2.2.2 xi (by omega)⟩
  have xw:=M (ia (U xU) xi)
  have kj:b < ho.heap.size:=by omega
  have HCV:Hid (∀ j c,l[j]? = some c→V.rangeAt b (off + j * 6) c.vs):=fun j c hj=>zc (U oW j c hj) xi kj
  have hcS:w.heap.size + 1 + 1 < c:=by omega
  simp only [e14]
  generalize f 0 = u20,f 1 = u21,f 2 = u22,f 3 = u23,f 4 = u24,f 5 = u25,f 6 = u26,f 7 = u27,f 8 = u28,f 9 = u29,f 10 = u30,f 11 = u31,f 12 = u32,f 13 = u33
  clear hD xp k15 e14 hcr xN hx xi kT vw xU oW aB HS
  have vY:=M (World.ownsRow_made (base:=V.heap.size) (e:=65) (size:=6) V #[] 0 hU (by decide) rfl)
  have vf:Hid (∀ j u,(l.flatMap Od.vs)[j]? = some u→(V.alloc (O #[] 65)).cell? (((J b off):Addr).add j) = some u):=fun j u hu=>by
   have h:=eZ (W:=V.alloc (O #[] 65)) (g:=b) (off:=off) (l:=l) (fun i c hi=>zc (U HCV i c hi) ((Below.refl V.heap.size V).alloc hU _) (by omega)) 0 l.length j u (by simpa using hu)
   simpa using h
  refine ic fun xh xK=>?_
  go_wp2_with (at_builtin; go_must (refine wpList_append_own _ rfl _ _ 25 rfl V.heap.size 65 i0 _ 6 56 Tryz.underlying25 uJ uD uz uM rfl (by decide) (.slice (some (J V.heap.size 0)) 0 0) 0 [] rfl (U vY) (J b off) l.length cap (l.flatMap Od.vs) rfl (by rw [zL Od.len]) (U vf) (dj l) (by unfold maxLen; omega) (by omega) (by simp) ?_); intro v1 w1 uW je _; obtain ⟨g,cp,rfl,uq,hVg,hgw,ho1',ub⟩:=hit_mid (U HNE) hn uW je; have vv:=M ho1'; have xU:=M ub; clear uW je ho1' ub)
  refine U xK _ _ ?_
  clear xK vf vY
  have vw:Hid (w1.rangeAt w.heap.size 0 (yw ut uf xX xJ ue uP)∧w1.there w.heap.size 0 6∧w1.there (w.heap.size + 1) 0 6∧w1.there (w.heap.size + 1 + 1) 0 14):=⟨zc (U HXV).1 (U xU) (by omega),zk (U HXV).2.1 (U xU) (by omega),zk (U HXV).2.2.1 (U xU) (by omega),zk (U HXV).2.2.2 (U xU) (by omega)⟩
  have oM:=M (zc (U HCR) (U xU) js)
  have xI:=M ((U xw).trans ((U xU).mono (U xw).size))
  have ur:=fh (U vv) hn (U HIO)
  have c3:w1.cell? (J g (i * 6 + 3)) = some (H xH):=ur.1 3 _ rfl
  have f3:w1.frozen? (J g (i * 6 + 3)) = false:=ur.2 3 (by omega)
  have t3:w1.cell? (J w.heap.size 3) = some (H xJ):=(U vw).1 3 _ rfl
  have s3:w1.frozen? (J w.heap.size 3) = false:=by have:=((U vw).2.1 3 (by omega)).2; rwa [Nat.zero_add] at this
  have hgS:g ≠ w.heap.size:=by omega
  have hSg:w.heap.size ≠ g:=by omega
  have jl:-9223372036854775808 ≤ xH - q:=by omega
  have hq2:xH - q ≤ 9223372036854775807:=by omega
  have hq3:-9223372036854775808 ≤ xJ - q:=by omega
  have hq4:xJ - q ≤ 9223372036854775807:=by omega
  clear ur
  refine ic fun xh xK=>?_
  go_wp2_with fail
  refine U xK _ _ ?_
  clear xK
  refine ic fun xh xK=>?_
  go_wp2_with fail
  refine U xK _ _ ?_
  clear xK
  have HZO:Hid (ORow ((w1.setCell (J g (i * 6 + 3)) (H (xH - q))).setCell (J w.heap.size 3) (H (xJ - q))) V.heap.size (.slice (some (J g 0)) l.length cp) (l.set i ⟨uH,uR,xv,xH - q,uQ,qr⟩)):=cw (oRow_left (U vv) rfl (U HIO) (xH - q)).1 (by simp [Value.ownBlock]; omega) _ _
  have HZT:=M (range_left (k:=i * 6 + 3) (x:=H (xH - q)) (y:=H (xJ - q)) (U vw).1 hgS)
  have HZE:=M (range_far (p:=w.heap.size) (k:=3) (x:=H (xJ - q)) (range_far (p:=g) (k:=i * 6 + 3) (x:=H (xH - q)) (U oM) (by omega)) (by omega))
  have jI:=M (gf (c:=w.heap.size) (j:=3) (u:=H (xJ - q)) (gf (c:=g) (j:=i * 6 + 3) (u:=H (xH - q)) (U vw).2.2.1))
  have HZ2:=M (gf (c:=w.heap.size) (j:=3) (u:=H (xJ - q)) (gf (c:=g) (j:=i * 6 + 3) (u:=H (xH - q)) (U vw).2.2.2))
  have HZB:=M (((U xI).setCell (p:=(J g (i * 6 + 3))) (by simp; omega) (H (xH - q))).setCell (p:=(J w.heap.size 3)) hU (H (xJ - q)))
  have hgz:g < ((w1.setCell (J g (i * 6 + 3)) (H (xH - q))).setCell (J w.heap.size 3) (H (xJ - q))).heap.size:=by simp [World.setCell]; exact hgw
  have z3:((w1.setCell (J g (i * 6 + 3)) (H (xH - q))).setCell (J w.heap.size 3) (H (xJ - q))).cell? (J g (i * 6 + 3)) = some (H (xH - q)):=(yM _ _ _ _ (fun e=>hSg (congrArg Addr.block e))).trans (yN _ _ _ c3)
  generalize ((w1.setCell (J g (i * 6 + 3)) (H (xH - q))).setCell (J w.heap.size 3) (H (xJ - q))) = yl at HZO HZT HZE jI HZ2 HZB hgz z3 ⊢
  clear c3 f3 t3 s3 vw oM xI vv xU HXV HCR xw HCV hgw
  refine ic fun xh xK=>?_
  have HT:Hid (∀ (u0 u1 u2 u3 u5 u6 u9 u12 u13 u14 u15 u16 u17 u18 u19 u20 u21 u22 u23 u24 u25 u26 u27 u28 u29 u30 u31 u32 u33 u34 u35 u36 u37 u38 u39 u40 u41 u42 u43 u44 u45 u46 u47 u48 u49 u50 u51 u52 u53 u54 u55 u56 u57 u58 u59 u60 u61 u62 u63 u64 u65 u66 u67 u68 u69 v11:Value) (Z':World),ORow Z' (w.heap.size + 1 + 1 + 1) v11 (bQ l i ⟨uH,uR,xv,xH,uQ,qr⟩ q)→yn w Z'→Z'.rangeAt w.heap.size 0 (yw ut uf xX (xJ - q) ue uP)→Z'.there (w.heap.size + 1) 0 6→Z'.there (w.heap.size + 1 + 1) 0 14→Z'.rangeAt c 0 (yv 3 0 0 0 0 0 0 0 ⟨#[]⟩ ut uH q xv 0)→xh { tmps:=#[u0,u1,u2,u3,I w.heap.size 0,u5,u6,I (w.heap.size + 1) 0,I (w.heap.size + 1 + 1) 0,u9,I c 0,v11,u12,u13,u14,u15,u16,u17,u18,u19,u20,u21,u22,u23,u24,u25,u26,u27,u28,u29,u30,u31,u32,u33,u34,u35,u36,u37,u38,u39,u40,u41,u42,u43,u44,u45,u46,u47,u48,u49,u50,u51,u52,u53,u54,u55,u56,u57,u58,u59,u60,u61,u62,u63,u64,u65,u66,u67,u68,u69],defers:=[] } Z'):=by
   intro u0 u1 u2 u3 u5 u6 u9 u12 u13 u14 u15 u16 u17 u18 u19 u20 u21 u22 u23 u24 u25 u26 u27 u28 u29 u30 u31 u32 u33 u34 u35 u36 u37 u38 u39 u40 u41 u42 u43 u44 u45 u46 u47 u48 u49 u50 u51 u52 u53 u54 u55 u56 u57 u58 u59 u60 u61 u62 u63 u64 u65 u66 u67 u68 u69 v11 Z' hO hB hT Q D hE
   refine U xK _ _ ?_
   have HO:=M hO
   have HB:=M hB
   have HTT:=M hT
   have HE:=M hE
   have HH1:=M Q
   have HH2:=M D
   clear hO hB hT hE Q D xK
   obtain ⟨V0,pJ⟩:∃ V:World,V = { Z' with drawn:=Z'.drawn + 1 }:=⟨_,rfl⟩
   have HO:Hid (ORow V0 (w.heap.size + 1 + 1 + 1) v11 (bQ l i ⟨uH,uR,xv,xH,uQ,qr⟩ q)):=by rw [pJ]; exact U HO
   have HB:Hid (yn w V0):=by rw [pJ]; exact (U HB).trans ⟨rfl,rfl,rfl,Nat.le_refl _,fun _ _=>rfl⟩
   have HTT:Hid (V0.rangeAt w.heap.size 0 (yw ut uf xX (xJ - q) ue uP)):=by rw [pJ]; exact U HTT
   have HE:Hid (V0.rangeAt c 0 (yv 3 0 0 0 0 0 0 0 ⟨#[]⟩ ut uH q xv 0)):=by rw [pJ]; exact U HE
   have HH1:Hid (V0.there (w.heap.size + 1) 0 6):=by rw [pJ]; exact U HH1
   have HH2:Hid (V0.there (w.heap.size + 1 + 1) 0 14):=by rw [pJ]; exact U HH2
   obtain ⟨V1,jr⟩:∃ V:World,V = V0.setCells (w.heap.size + 1) 0 (yw ut uf xX (xJ - q) ue uP):=⟨_,rfl⟩
   obtain ⟨V2,oz⟩:∃ V:World,V = V1.setCells (w.heap.size + 1 + 1) 0 (yv 3 0 0 0 0 0 0 0 ⟨#[]⟩ ut uH q xv 0):=⟨_,rfl⟩
   have vv:Hid (ORow V1 (w.heap.size + 1 + 1 + 1) v11 (bQ l i ⟨uH,uR,xv,xH,uQ,qr⟩ q)):=by rw [jr]; exact ft (by omega) _ _ _ (U HO)
   have xU:Hid (yn w V1):=by rw [jr]; exact zj _ (by omega) _ _ _ (U HB)
   have vm:Hid (V1.rangeAt (w.heap.size + 1) 0 (yw ut uf xX (xJ - q) ue uP)):=by rw [jr]; exact yY V0 _ 0 _ (fun j hj=>U HH1 j hj)
   have oM:Hid (V1.rangeAt c 0 (yv 3 0 0 0 0 0 0 0 ⟨#[]⟩ ut uH q xv 0)):=by rw [jr]; exact gE (U HE) (by omega)
   have HH3:Hid (V1.there (w.heap.size + 1 + 1) 0 14):=by rw [jr]; exact xc (U HH2) _ _ _
   have HOE:Hid (ORow V2 w.heap.size v11 (bQ l i ⟨uH,uR,xv,xH,uQ,qr⟩ q)):=by rw [oz]; exact dE (ft (by omega) _ _ _ (U vv)) (by omega)
   have vk:Hid (yn w V2):=by rw [oz]; exact zj _ (by omega) _ _ _ (U xU)
   have vS:Hid (V2.rangeAt (w.heap.size + 1 + 1) 0 (yv 3 0 0 0 0 0 0 0 ⟨#[]⟩ ut uH q xv 0)):=by rw [oz]; exact yY V1 _ 0 _ (fun j hj=>U HH3 j hj)
   have vm:Hid (V2.rangeAt (w.heap.size + 1) 0 (yw ut uf xX (xJ - q) ue uP)):=by rw [oz]; exact gE (U vm) (by omega)
   have HV0:=M pJ
   have HV1:=M jr
   have HV2:=M oz
   clear pJ jr oz HO HB vv xU
   go_wp2_with fail
   refine zn (R8A (fun f=>{ tmps:=#[u0,u1,u2,u3,I w.heap.size 0,u5,f 3,I (w.heap.size + 1) 0,I (w.heap.size + 1 + 1) 0,u9,I c 0,v11,u12,u13,u14,u15,u16,u17,u18,u19,u20,u21,u22,u23,u24,u25,u26,u27,u28,u29,u30,u31,u32,u33,u34,u35,u36,u37,u38,u39,u40,u41,u42,u43,u44,u45,u46,u47,u48,u49,u50,u51,u52,u53,u54,u55,u56,u57,u58,u59,u60,u61,u62,u63,u64,u65,u66,f 0,f 1,f 2],defers:=[] }) v11 (.agg (yw ut uf xX (xJ - q) ue uP).toArray) (.agg (yv 3 0 0 0 0 0 0 0 ⟨#[]⟩ ut uH q xv 0).toArray) V0 V1 V2) (by kernel_rfl) ?_ ?_ ?_
   ·exact ⟨fun j=>if j = 3 then u6 else if j = 0 then u67 else if j = 1 then u68 else u69,rfl,⟨by simp,by simp,by simp,by simp,by simp,fun _=>(U HV0).symm,by simp,by simp⟩⟩
   ·rintro x hb V' ⟨f,rfl,F⟩ hx xN
    have xp:=zY xN hx (by kernel_rfl)
    have e3:=F.f3 (xp 3 (by simp))
    have eW:=F.s2 (xp 4 (by simp)) (xp 5 (by simp))
    subst eW
    simp only [e3]
    clear F xp e3 xN hx
    obtain ⟨d0,d1,d2,d3,d4,d5⟩:=yD (U vm)
    obtain ⟨e0,e1,e2,e3,e4,e5,e6,e7,e8,e9,vy,vz,qj,qk⟩:=yG (U vS)
    go_wp2_with fail
    try simp only [Exit.inBlock,Exit.then]
    refine bodyPost_ret (by simp [results,Tryz.results70,go_sem,d0,d1,d2,d3,d4,d5,e0,e1,e2,e3,e4,e5,e6,e7,e8,e9,vy,vz,qj,qk]; try rfl) rfl ?_
    exact ⟨v11,rfl,U HOE,U vk⟩
   ·rintro x hb V' i' o' ⟨f,rfl,F⟩ xo hx Y xu K
    have n5:i' < 5→x[5]? = some false:=fun xM=>by
     rcases dm hx (show 5 < 6 by omega) with h | h
     ·exact h
     ·have:=xo 5 _ rfl h ⟨i',.phase⟩ (by rcases (by omega:i' = 0 ∨ i' = 1 ∨ i' = 2 ∨ i' = 3 ∨ i' = 4) with rfl | rfl | rfl | rfl | rfl <;> simp) rfl
      rw [xu] at this; cases this
    have n4:i' = 0 ∨ i' = 1 ∨ i' = 3→x[4]? = some false:=fun xM=>by
     rcases dm hx (show 4 < 6 by omega) with h | h
     ·exact h
     ·have:=xo 4 _ rfl h ⟨i',.phase⟩ (by rcases xM with rfl | rfl | rfl <;> simp) rfl
      rw [xu] at this; cases this
    have xA:=M F
    clear xo
    match i',Y with
    | 0,Y =>
     obtain rfl:=ya Y
     clear K F
     rw [if_pos (by rfl)];unfold Oper.wp;go_simp
     exact ⟨upd f 0 v11,by simp [upd],r8_val (U xA) 0 _ (by omega) (fun _=>rfl) (by omega) (by omega) (by omega)⟩
    | 1,Y =>
     obtain rfl:=ya Y
     have eV:=F.s0 (n4 (by omega))
     subst eV
     obtain ⟨c0,c1,c2,c3,c4,c5⟩:=yD (U HTT)
     clear K F
     rw [if_pos (by rfl)];unfold Oper.wp;go_simp
     exact ⟨upd f 1 (.agg (yw ut uf xX (xJ - q) ue uP).toArray),by simp [upd],r8_val (U xA) 1 _ (by omega) (by omega) (fun _=>rfl) (by omega) (by omega)⟩
    | 2,Y =>
     obtain rfl:=ya Y
     have jo:Hid (V'.rangeAt c 0 (yv 3 0 0 0 0 0 0 0 ⟨#[]⟩ ut uH q xv 0)):=by
      rcases dm hx (show 4 < 6 by omega) with h | h
      ·rw [F.s0 h]; exact U HE
      ·rw [F.s1 h (n5 (by omega))]; exact U oM
     obtain ⟨c0,c1,c2,c3,c4,c5,c6,c7,c8,c9,c10,c11,c12,c13⟩:=yG (U jo)
     clear K F
     rw [if_pos (by rfl)];unfold Oper.wp;go_simp
     exact ⟨upd f 2 (.agg (yv 3 0 0 0 0 0 0 0 ⟨#[]⟩ ut uH q xv 0).toArray),by simp [upd],r8_val (U xA) 2 _ (by omega) (by omega) (by omega) (fun _=>rfl) (by omega)⟩
    | 3,Y =>
     obtain rfl:=ya Y
     have g0:=F.f0 (ye K 0 rfl)
     clear K F
     rw [if_pos (by rfl)];unfold Oper.wp;go_simp
     exact ⟨upd f 3 v11,by simp [upd,g0],r8_val (U xA) 3 _ (by omega) (by omega) (by omega) (by omega) (fun _=>rfl)⟩
    | 4,Y =>
     obtain rfl:=ya Y
     have g1:=F.f1 (ye K 1 rfl)
     have eV:=F.s0 xu
     subst eV
     have xV:=U HH1
     obtain ⟨y0,z0,q0⟩:=zg xV (j:=0) (by omega)
     obtain ⟨y1,z1,q1⟩:=zg xV (j:=1) (by omega)
     obtain ⟨y2,z2,q2⟩:=zg xV (j:=2) (by omega)
     obtain ⟨y3,z3,q3⟩:=zg xV (j:=3) (by omega)
     obtain ⟨y4,z4,q4⟩:=zg xV (j:=4) (by omega)
     obtain ⟨y5,z5,q5⟩:=zg xV (j:=5) (by omega)
     have n5':=n5 (by omega)
     clear K F xV
     rw [if_pos (by rfl)];unfold Oper.wp;go_simp
     have HR4:=r8_4 (U xA) xu n5'
     conv at HR4=>arg 9; rw [U HV1]
     exact ⟨f,by simp [g1],HR4⟩
    | 5,Y =>
     obtain rfl:=ya Y
     have g2:=F.f2 (ye K 2 rfl)
     have k4:x[4]? = some true:=K ⟨4,.chain⟩ (by simp) rfl
     have eV:=F.s1 k4 xu
     subst eV
     have xV:=U HH3
     have pD:=M (r8_5 (U xA) k4 xu)
     clear xA F
     obtain ⟨y0,z0,q0⟩:=zg xV (j:=0) (by omega)
     obtain ⟨y1,z1,q1⟩:=zg xV (j:=1) (by omega)
     obtain ⟨y2,z2,q2⟩:=zg xV (j:=2) (by omega)
     obtain ⟨y3,z3,q3⟩:=zg xV (j:=3) (by omega)
     obtain ⟨y4,z4,q4⟩:=zg xV (j:=4) (by omega)
     obtain ⟨y5,z5,q5⟩:=zg xV (j:=5) (by omega)
     obtain ⟨y6,z6,q6⟩:=zg xV (j:=6) (by omega)
     obtain ⟨y7,z7,q7⟩:=zg xV (j:=7) (by omega)
     obtain ⟨y8,z8,q8⟩:=zg xV (j:=8) (by omega)
     obtain ⟨y9,z9,q9⟩:=zg xV (j:=9) (by omega)
     obtain ⟨y10,pV,q10⟩:=zg xV (j:=10) (by omega)
     obtain ⟨y11,pW,q11⟩:=zg xV (j:=11) (by omega)
     obtain ⟨y12,pX,q12⟩:=zg xV (j:=12) (by omega)
     obtain ⟨y13,pY,q13⟩:=zg xV (j:=13) (by omega)
     have hsf:=sfl
     clear K xV
     rw [if_pos (by rfl)];unfold Oper.wp;go_simp
     have HR6:=U pD
     conv at HR6=>arg 9; rw [U HV2]
     exact ⟨upd f 5 (.agg (yv 3 0 0 0 0 0 0 0 ⟨#[]⟩ ut uH q xv 0).toArray),by simp [upd,g2],HR6⟩
    | i' + 6,Y=>simp at Y
  clear xK
  by_cases hz:xH - q = 0
  ·have b0:(xH - q == 0) = true:=by simpa using hz
   have HH:=M (hit_same (l:=l) (i:=i) (o:=⟨uH,uR,xv,xH,uQ,qr⟩) hz)
   clear hz
   generalize hleft:l.set i ⟨uH,uR,xv,xH - q,uQ,qr⟩ = left at HZO HH
   have hll:left.length = l.length:=by rw [← hleft,List.length_set]
   clear hleft
   have HC7:Hid (∀ j c,left[j]? = some c→yl.rangeAt g (0 + j * 6) c.vs):=fun j c hj=>by
    have:=(fh (U HZO) (by omega) hj).1
    rwa [Nat.zero_add]
   have hll1:l.length ≤ 1000:=hn
   have hicp:i ≤ cp:=by omega
   have hi1:i + 1 ≤ l.length:=by omega
   have hi1':(i:Int) + 1 ≤ l.length:=by omega
   have hlcp:(l.length:Int) ≤ cp:=by omega
   have h0i:(0:Int) ≤ (i:Int) + 1:=by omega
   go_wp2_with fail
   clear z3
   refine fu (R7A (.slice (some (J g 0)) l.length cp) yl (C7 (.slice (some (J g 0)) l.length cp) g l.length cp i) (left.take i) (left.take i ++ left.drop (i + 1)) (fun f=>{ tmps:=#[.slice (some (J b off)) l.length cap,.agg (yw ut uf xX xJ ue uP).toArray,H i,Z,I w.heap.size 0,Z,.slice none 0 0,I (w.heap.size + 1) 0,I (w.heap.size + 1 + 1) 0,H q,I c 0,f 10,I w.heap.size 3,H xJ,.slice (some (J b off)) l.length cap,H i,I b (off + i * 6),I b (off + i * 6 + 3),H xH,H q,u20,u21,u22,u23,u24,u25,u26,u27,u28,u29,u30,u31,u32,u33,.slice (some (J V.heap.size 0)) 0 0,.slice (some (J b off)) l.length cap,.slice (some (J g 0)) l.length cp,.slice (some (J g 0)) l.length cp,H i,I g (i * 6),I g (i * 6 + 3),H xH,H q,H (xH - q),I g (i * 6),I g (i * 6 + 3),I w.heap.size 3,H xJ,H q,H (xJ - q),I w.heap.size 3,.slice (some (J g 0)) l.length cp,H i,I g (i * 6),I g (i * 6 + 3),H (xH - q),.bool true,f 0,f 1,f 2,f 3,f 4,f 5,f 6,f 7,f 8,f 9,Z,Z,Z],defers:=[] })) (by kernel_rfl) ?_ ?_ ?_
   ·exact ⟨fun j=>if j = 10 then .slice (some (J g 0)) l.length cp else Z,rfl,⟨⟨rfl,rfl,rfl,Nat.le_refl _,fun _ _=>rfl⟩,fun j hj=>by rw [yJ] at hj; split at hj <;> simp at hj,fun _=>rfl,by simp,by simp,by simp,by simp,by simp,by simp,by simp⟩⟩
   ·rintro x hb V' ⟨f,rfl,F⟩ hx xN
    have xp:=zX xN hx (acyc _ (by kernel_rfl))
    have k9:x[9]? = some true:=xp 9 (by simp)
    have k10:x[10]? = some true:=xp 10 (by simp)
    have ay:=M (F.m9 k9)
    have vy:f 10 = f 9:=F.m10 k10
    have xw:=M F.bel
    simp only [vy]
    clear F xp k9 k10 vy xN hx
    have bN:=(U HZB).size
    refine U HT _ _ _ _ _ _ _ _ _ _ _ _ _ _ _ _ _ _ _ _ _ _ _ _ _ _ _ _ _ _ _ _ _ _ _ _ _ _ _ _ _ _ _ _ _ _ _ _ _ _ _ _ _ _ _ _ _ _ _ _ _ _ _ _ _ _ _ (by rw [← U HH]; exact dE (U ay) (by omega)) ((U HZB).trans ((U xw).mono bN)) (zc (U HZT) (U xw) (by omega)) (zk (U jI) (U xw) (by omega)) (zk (U HZ2) (U xw) (by omega)) (zc (U HZE) (U xw) (by omega))
   ·rintro x hb V i' o' ⟨f,rfl,F⟩ hx Y xu K
    have qF:=M F
    have n10:i' < 10→x[10]? = some false:=fun xM=>by
     have vK:10 < x.length:=by rw [hx]; simp
     cases A:x[10]
     ·rw [yI vK,A]
     ·have:=F.o10 (by rw [yI vK,A]) i' xM
      rw [xu] at this; cases this
    match i',Y with
    | 0,Y =>
     obtain rfl:=ya Y
     clear F K
     rw [if_pos (by rfl)];unfold Oper.wp;go_simp
     exact ⟨upd f 0 (.slice (some (J V.heap.size 0)) 0 0),by simp [upd],r7_0 (U qF) xu (fun _=>trivial)⟩
    | 1,Y =>
     obtain rfl:=ya Y
     have s5:f 10 = .slice (some (J g 0)) l.length cp:=F.s5 (n10 (by omega))
     clear F K
     rw [if_pos (by rfl)];unfold Oper.wp;go_simp
     exact ⟨upd f 1 (.slice (some (J g 0)) l.length cp),by simp [upd,s5],cW (U qF) 1 _ rfl (by decide) (by decide) (by decide) (by decide)⟩
    | 2,Y =>
     obtain rfl:=ya Y
     clear F K
     rw [if_pos (by rfl)];unfold Oper.wp;go_simp
     exact ⟨upd f 2 (H i),by simp [upd],cW (U qF) 2 _ rfl (by decide) (by decide) (by decide) (by decide)⟩
    | 3,Y =>
     obtain rfl:=ya Y
     have g1:C7 (.slice (some (J g 0)) l.length cp) g l.length cp i 1 (f 1):=F.c 1 (ye K 1 rfl)
     have g2:C7 (.slice (some (J g 0)) l.length cp) g l.length cp i 2 (f 2):=F.c 2 (ye K 2 rfl)
     simp only [C7] at g1 g2
     clear F K
     rw [if_pos (by rfl)];unfold Oper.wp;go_simp
     exact ⟨upd f 3 (.slice (some (J g 0)) i cp),by simp [upd,g1,g2],cW (U qF) 3 _ rfl (by decide) (by decide) (by decide) (by decide)⟩
    | 4,Y =>
     obtain rfl:=ya Y
     have g3:C7 (.slice (some (J g 0)) l.length cp) g l.length cp i 3 (f 3):=F.c 3 (ye K 3 rfl)
     have k0:x[0]? = some true:=K ⟨0,.data⟩ (by simp) rfl
     have HCV:Hid (∀ j c,left[j]? = some c→V.rangeAt g (0 + j * 6) c.vs):=fun j c hj=>zc (U HC7 j c hj) F.bel hgz
     simp only [C7] at g3
     clear F K
     rw [if_pos (by rfl)]
     refine wp_append_own V (.tmp 57) (.tmp 60) 25 rfl yl.heap.size 65 i0 _ 6 56 Tryz.underlying25 uJ uD uz uM rfl (by decide) (f 0) 0 [] rfl ((U qF).m0 k0 xu) (J g 0) i cp ((left.take i).flatMap Od.vs) g3 (by rw [zL Od.len,List.length_take]; congr 1; omega) (by simpa using eZ (W:=V) (g:=g) (off:=0) (l:=left) (U HCV) 0 i) (dj _) (by unfold maxLen; omega) (by omega) (U qF).bel.size ?_
     intro v' w' xS uZ _
     refine ⟨upd f 4 v',rfl,r7_4 (U qF) k0 xu (fun _=>trivial) ?_ uZ⟩
     have xD:(left.take i).length = 0 + i:=by rw [List.length_take]; omega
     show w'.ownsRow _ _ _ _ (left.take i).length _
     rw [xD]; simpa using xS
    | 5,Y =>
     obtain rfl:=ya Y
     have s5:f 10 = .slice (some (J g 0)) l.length cp:=F.s5 (n10 (by omega))
     clear F K
     rw [if_pos (by rfl)];unfold Oper.wp;go_simp
     exact ⟨upd f 5 (.slice (some (J g 0)) l.length cp),by simp [upd,s5],cW (U qF) 5 _ rfl (by decide) (by decide) (by decide) (by decide)⟩
    | 6,Y =>
     obtain rfl:=ya Y
     clear F K
     rw [if_pos (by rfl)];unfold Oper.wp;go_simp
     exact ⟨upd f 6 (H i),by simp [upd],cW (U qF) 6 _ rfl (by decide) (by decide) (by decide) (by decide)⟩
    | 7,Y =>
     obtain rfl:=ya Y
     have g6:C7 (.slice (some (J g 0)) l.length cp) g l.length cp i 6 (f 6):=F.c 6 (ye K 6 rfl)
     simp only [C7] at g6
     have bd:IntKind.i64.wrap ((i:Int) + 1) = (i:Int) + 1:=by rw [IntKind.wrap_i64]; omega
     clear F K
     rw [if_pos (by rfl)];unfold Oper.wp;go_simp
     exact ⟨upd f 7 (H ((i:Int) + 1)),by simp [upd,g6],cW (U qF) 7 _ rfl (by decide) (by decide) (by decide) (by decide)⟩
    | 8,Y =>
     obtain rfl:=ya Y
     have g5:C7 (.slice (some (J g 0)) l.length cp) g l.length cp i 5 (f 5):=F.c 5 (ye K 5 rfl)
     have g7:C7 (.slice (some (J g 0)) l.length cp) g l.length cp i 7 (f 7):=F.c 7 (ye K 7 rfl)
     simp only [C7] at g5 g7
     clear F K
     by_cases hcp:cp = i + 1
     ·subst hcp
      rw [if_pos (by rfl)];unfold Oper.wp;go_simp
      exact ⟨upd f 8 (.slice (some (J g 0)) (l.length - (i + 1)) 0),by simp [upd,g5,g7]; omega,cW (U qF) 8 _ ⟨_,_,rfl,fun h=>by omega⟩ (by decide) (by decide) (by decide) (by decide)⟩
     ·rw [if_pos (by rfl)];unfold Oper.wp;go_simp
      exact ⟨upd f 8 (.slice (some (J g ((i + 1) * 6))) (l.length - (i + 1)) (cp - (i + 1))),by simp [upd,g5,g7],cW (U qF) 8 _ ⟨_,_,rfl,fun h=>rfl⟩ (by decide) (by decide) (by decide) (by decide)⟩
    | 9,Y =>
     obtain rfl:=ya Y
     have g8:C7 (.slice (some (J g 0)) l.length cp) g l.length cp i 8 (f 8):=F.c 8 (ye K 8 rfl)
     have k4:x[4]? = some true:=K ⟨4,.data⟩ (by simp) rfl
     have HCV:Hid (∀ j c,left[j]? = some c→V.rangeAt g (0 + j * 6) c.vs):=fun j c hj=>zc (U HC7 j c hj) F.bel hgz
     obtain ⟨ad8,c8,g8,had⟩:=g8
     clear F K
     have hsrc8:∀ j u,((left.drop (i + 1)).flatMap Od.vs)[j]? = some u→V.cell? (ad8.add j) = some u:=by
      intro j u hu
      by_cases xM:i + 1 < l.length
      ·rw [had xM]
       have:=eZ (W:=V) (g:=g) (off:=0) (l:=left) (U HCV) (i + 1) (l.length - (i + 1)) j u (by rw [xa (by simp [hll])]; exact hu)
       simpa using this
      ·rw [xb (by omega)] at hu; simp at hu
     rw [if_pos (by rfl)]
     refine wp_append_own V (.tmp 61) (.tmp 65) 25 rfl yl.heap.size 65 i0 _ 6 56 Tryz.underlying25 uJ uD uz uM rfl (by decide) (f 4) (left.take i).length ((left.take i).flatMap Od.vs) rfl ((U qF).m4 k4 xu) ad8 (l.length - (i + 1)) c8 ((left.drop (i + 1)).flatMap Od.vs) g8 (by rw [zL Od.len,List.length_drop,hll]) hsrc8 (dj _) (by unfold maxLen; rw [List.length_take]; omega) (by rw [List.length_take]; omega) (U qF).bel.size ?_
     intro v' w' xS uZ _
     refine ⟨upd f 9 v',rfl,r7_9 (U qF) k4 xu (fun _=>trivial) ?_ uZ⟩
     show w'.ownsRow _ _ _ _ (left.take i ++ left.drop (i + 1)).length _
     rw [yQ,List.length_drop,hll,List.flatMap_append]
     exact xS
    | 10,Y =>
     obtain rfl:=ya Y
     have hA:∀ j,j < 10→x[j]? = some true:=fun j hj=>K ⟨j,.phase⟩ (by
      match j,hj with
      | 0,_=>simp
      | 1,_=>simp
      | 2,_=>simp
      | 3,_=>simp
      | 4,_=>simp
      | 5,_=>simp
      | 6,_=>simp
      | 7,_=>simp
      | 8,_=>simp
      | 9,_=>simp
      | n + 10,h=>omega) rfl
     clear F K
     rw [if_pos (by rfl)];unfold Oper.wp;go_simp
     exact ⟨upd f 10 (f 9),by simp [upd],r7_10 (U qF) hA xu (fun _=>trivial)⟩
    | n + 11,Y=>simp at Y
  ·have b0:(xH - q == 0) = false:=by simpa using hz
   have HH:=M (hit_less (l:=l) (i:=i) (o:=⟨uH,uR,xv,xH,uQ,qr⟩) hz)
   clear hz
   go_wp2_with fail
   refine U HT _ _ _ _ _ _ _ _ _ _ _ _ _ _ _ _ _ _ _ _ _ _ _ _ _ _ _ _ _ _ _ _ _ _ _ _ _ _ _ _ _ _ _ _ _ _ _ _ _ _ _ _ _ _ _ _ _ _ _ _ _ _ _ _ _ _ _ (by rw [← U HH]; exact dE (U HZO) (by omega)) (U HZB) (U HZT) (U jI) (U HZ2) (U HZE)
 ·rintro x hb V i' o' ⟨f,rfl,xi,hD⟩ xo hx Y xu K
  have n15':i' < 15→¬ x[15]? = some true:=fun xM vT=>by
   have vr:∀ j,j < 15→x[j]? = some true:=fun j hj=>xo 15 _ rfl vT ⟨j,.phase⟩ (by
    rcases (by omega:j = 0 ∨ j = 1 ∨ j = 2 ∨ j = 3 ∨ j = 4 ∨ j = 5 ∨ j = 6 ∨ j = 7 ∨ j = 8 ∨ j = 9 ∨ j = 10 ∨ j = 11 ∨ j = 12 ∨ j = 13 ∨ j = 14) with rfl | rfl | rfl | rfl | rfl | rfl | rfl | rfl | rfl | rfl | rfl | rfl | rfl | rfl | rfl <;> simp) rfl
   rw [vr i' xM] at xu; cases xu
  clear xo
  have xw:=M xi
  have HD:=M hD
  have hS1:=U aB
  have kj:b < ho.heap.size:=by omega
  have z0:V.cell? (J w.heap.size 0) = some (H ut):=zc (U vw).1 xi (by omega) 0 _ rfl
  have o0:V.cell? (J b (off + i * 6)) = some (H uH):=zc (U oW i _ (U HIO)) xi kj 0 _ rfl
  have o2:V.cell? (J b (off + i * 6 + 2)) = some (H xv):=zc (U oW i _ (U HIO)) xi kj 2 _ rfl
  clear xK hS1
  match i',Y with
  | 0,Y =>
   obtain rfl:=ya Y
   clear K hD xi
   rw [if_pos (by rfl)];unfold Oper.wp;go_simp
   exact ⟨upd f 0 (I w.heap.size 0),by simp [upd],zf (U xw) (U HD) (by decide) rfl⟩
  | 1,Y =>
   obtain rfl:=ya Y
   have g0:f 0 = I w.heap.size 0:=hD 0 (ye K 0 rfl)
   clear K hD xi
   rw [if_pos (by rfl)];unfold Oper.wp;go_simp
   exact ⟨upd f 1 (H ut),by simp [upd,g0],zf (U xw) (U HD) (by decide) rfl⟩
  | 2,Y | 8,Y =>
   obtain rfl:=ya Y
   clear K hD xi
   rw [if_pos (by rfl)];unfold Oper.wp;go_simp
   exact ⟨upd f _ (.slice (some (J b off)) l.length cap),by simp [upd],zf (U xw) (U HD) (by decide) rfl⟩
  | 3,Y | 9,Y =>
   obtain rfl:=ya Y
   clear K hD xi
   rw [if_pos (by rfl)];unfold Oper.wp;go_simp
   exact ⟨upd f _ (H i),by simp [upd],zf (U xw) (U HD) (by decide) rfl⟩
  | 4,Y =>
   obtain rfl:=ya Y
   have g2:f 2 = .slice (some (J b off)) l.length cap:=hD 2 (ye K 2 rfl)
   have g3:f 3 = H i:=hD 3 (ye K 3 rfl)
   clear K hD xi
   rw [if_pos (by rfl)];unfold Oper.wp;go_simp
   exact ⟨upd f 4 (I b (off + i * 6)),by simp [upd,g2,g3],zf (U xw) (U HD) (by decide) rfl⟩
  | 5,Y =>
   obtain rfl:=ya Y
   have g4:f 4 = I b (off + i * 6):=hD 4 (ye K 4 rfl)
   clear K hD xi
   rw [if_pos (by rfl)];unfold Oper.wp;go_simp
   exact ⟨upd f 5 (I b (off + i * 6)),by simp [upd,g4],zf (U xw) (U HD) (by decide) rfl⟩
  | 6,Y =>
   obtain rfl:=ya Y
   have g5:f 5 = I b (off + i * 6):=hD 5 (ye K 5 rfl)
   clear K hD xi
   rw [if_pos (by rfl)];unfold Oper.wp;go_simp
   exact ⟨upd f 6 (H uH),by simp [upd,g5],zf (U xw) (U HD) (by decide) rfl⟩
  | 7,Y =>
   obtain rfl:=ya Y
   clear K hD xi
   rw [if_pos (by rfl)];unfold Oper.wp;go_simp
   exact ⟨upd f 7 (H q),by simp [upd],zf (U xw) (U HD) (by decide) rfl⟩
  | 10,Y =>
   obtain rfl:=ya Y
   have g8:f 8 = .slice (some (J b off)) l.length cap:=hD 8 (ye K 8 rfl)
   have g9:f 9 = H i:=hD 9 (ye K 9 rfl)
   clear K hD xi
   rw [if_pos (by rfl)];unfold Oper.wp;go_simp
   exact ⟨upd f 10 (I b (off + i * 6)),by simp [upd,g8,g9],zf (U xw) (U HD) (by decide) rfl⟩
  | 11,Y =>
   obtain rfl:=ya Y
   have qL:f 10 = I b (off + i * 6):=hD 10 (ye K 10 rfl)
   clear K hD xi
   rw [if_pos (by rfl)];unfold Oper.wp;go_simp
   exact ⟨upd f 11 (I b (off + i * 6 + 2)),by simp [upd,qL],zf (U xw) (U HD) (by decide) rfl⟩
  | 12,Y =>
   obtain rfl:=ya Y
   have ql:f 11 = I b (off + i * 6 + 2):=hD 11 (ye K 11 rfl)
   clear K hD xi
   rw [if_pos (by rfl)];unfold Oper.wp;go_simp
   exact ⟨upd f 12 (H xv),by simp [upd,ql],zf (U xw) (U HD) (by decide) rfl⟩
  | 13,Y =>
   obtain rfl:=ya Y
   have g1:f 1 = H ut:=hD 1 (ye K 1 rfl)
   have g6:f 6 = H uH:=hD 6 (ye K 6 rfl)
   have g7:f 7 = H q:=hD 7 (ye K 7 rfl)
   have ud:f 12 = H xv:=hD 12 (ye K 12 rfl)
   clear K hD xi
   rw [if_pos (by rfl)];unfold Oper.wp;go_simp
   exact ⟨upd f 13 (.agg (yv 3 0 0 0 0 0 0 0 ⟨#[]⟩ ut uH q xv 0).toArray),by simp [upd,g1,g6,g7,ud],zf (U xw) (U HD) (by decide) rfl⟩
  | 14,Y =>
   obtain rfl:=ya Y
   have n15:=n15' (by omega)
   clear K hD xi
   rw [if_pos (by rfl)];unfold Oper.wp;go_simp
   have xy:=gZ V (O (yv 0 0 0 0 0 0 0 0 ⟨#[]⟩ 0 0 0 0 0).toArray 37)
   exact ⟨upd f 14 (I V.heap.size 0),by simp [upd],cC (U xw) (U HD) xy (by decide) (dh_grow xy) ⟨V.heap.size,rfl,(U xw).size,by rw [zi]; omega,zM V (yv 0 0 0 0 0 0 0 0 ⟨#[]⟩ 0 0 0 0 0) _,fun h=>absurd h n15⟩⟩
  | 15,Y =>
   obtain rfl:=ya Y
   have kB:f 13 = .agg (yv 3 0 0 0 0 0 0 0 ⟨#[]⟩ ut uH q xv 0).toArray:=hD 13 (ye K 13 rfl)
   obtain ⟨c,kR,kT,js,pL,-⟩:=hD 14 (ye K 14 rfl)
   have HCT:=M pL
   obtain ⟨y0,z20,n20⟩:=zg pL (j:=0) (by omega)
   obtain ⟨y1,z21,n21⟩:=zg pL (j:=1) (by omega)
   obtain ⟨y2,z22,n22⟩:=zg pL (j:=2) (by omega)
   obtain ⟨y3,z23,n23⟩:=zg pL (j:=3) (by omega)
   obtain ⟨y4,z24,n24⟩:=zg pL (j:=4) (by omega)
   obtain ⟨y5,z25,n25⟩:=zg pL (j:=5) (by omega)
   obtain ⟨y6,z26,n26⟩:=zg pL (j:=6) (by omega)
   obtain ⟨y7,z27,n27⟩:=zg pL (j:=7) (by omega)
   obtain ⟨y8,z28,n28⟩:=zg pL (j:=8) (by omega)
   obtain ⟨y9,z29,n29⟩:=zg pL (j:=9) (by omega)
   obtain ⟨y10,z30,n30⟩:=zg pL (j:=10) (by omega)
   obtain ⟨y11,z31,n31⟩:=zg pL (j:=11) (by omega)
   obtain ⟨y12,z32,n32⟩:=zg pL (j:=12) (by omega)
   obtain ⟨y13,z33,n33⟩:=zg pL (j:=13) (by omega)
   have hsf:=sfl
   clear K hD xi pL
   rw [if_pos (by rfl)];unfold Oper.wp;go_simp
   refine ⟨upd f 15 Z,by simp [upd,kB,kR],rgx_last (zj c kT (yv 3 0 0 0 0 0 0 0 ⟨#[]⟩ ut uH q xv 0) 0 V (U xw)) (U HD) xu (fun j hj hxj h=>dh_last j hj h (fun hj14=>?_)) trivial⟩
   subst hj14
   refine ⟨c,kR,kT,by rw [eA]; exact js,xc (U HCT) _ _ _,fun _=>yY V c 0 _ (fun j hj=>U HCT j hj)⟩
  | n + 16,Y=>simp at Y
end Go.Proofs.YthhkapcbocgcoaaGreatDoor
