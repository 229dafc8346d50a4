/-
  A taker trades with the order at a place, by the model: proved by walking the function.
-/
import Derived.Test.YtdliebbfcmdmaaaGreatMj35
set_option linter.unusedVariables false
set_option maxHeartbeats 6400000
set_option maxRecDepth 100000
namespace Go.Proofs.YtdliebbfcmdmaaaGreat
open Go.RowKit
structure R8 (v ta ea:Value) (V0 V1 V2:World) (x:List Bool) (f:Nat→Value) (W:World):Prop where
 f0:x[0]? = some true→f 0 = v
 f1:x[1]? = some true→f 1 = ta
 f2:x[2]? = some true→f 2 = ea
 f3:x[3]? = some true→f 3 = v
 f5:x[5]? = some true→f 5 = ea
 s0:x[4]? = some false→W = V0
 s1:x[4]? = some true→x[5]? = some false→W = V1
 s2:x[4]? = some true→x[5]? = some true→W = V2
def R8A (qt:(Nat→Value)→Act) (v ta ea:Value) (V0 V1 V2:World) (x:List Bool) (xm:Act) (W:World):Prop:=∃ f,xm = qt f∧R8 v ta ea V0 V1 V2 x f W
section
variable {v ta ea:Value} {V0 V1 V2:World} {x:List Bool} {f:Nat→Value} {W:World}
theorem r8_val (h:R8 v ta ea V0 V1 V2 x f W) (i:Nat) (u:Value) (hi:i < 4) (h0:i = 0→u = v) (Q:i = 1→u = ta) (N:i = 2→u = ea) (h3:i = 3→u = v):R8 v ta ea V0 V1 V2 (x.set i true) (upd f i u) W:=by
 have key:∀ j (y:Value),(x[j]? = some true→f j = y)→(i = j→u = y)→(x.set i true)[j]? = some true→upd f i u j = y:=by
  intro j y hf hu hx
  by_cases e:i = j
  ·subst e; rw [zn]; exact hu rfl
  ·rw [zo _ _ (fun e'=>e e'.symm)]; rw [gq e] at hx; exact hf hx
 refine ⟨key 0 v h.f0 h0,key 1 ta h.f1 Q,key 2 ea h.f2 N,key 3 v h.f3 h3,key 5 ea h.f5 (by omega),?_,?_,?_⟩ <;> rw [gq (show i ≠ 4 by omega)]
 ·exact h.s0
 ·rw [gq (show i ≠ 5 by omega)]; exact h.s1
 ·rw [gq (show i ≠ 5 by omega)]; exact h.s2
theorem r8_4 (h:R8 v ta ea V0 V1 V2 x f W) (h4:x[4]? = some false) (h5:x[5]? = some false):R8 v ta ea V0 V1 V2 (x.set 4 true) f V1:=by
 refine ⟨?_,?_,?_,?_,?_,?_,?_,?_⟩
 ·rw [gq (by omega)]; exact h.f0
 ·rw [gq (by omega)]; exact h.f1
 ·rw [gq (by omega)]; exact h.f2
 ·rw [gq (by omega)]; exact h.f3
 ·rw [gq (by omega)]; exact h.f5
 ·intro e; rw [gqs h4] at e; cases e
 ·exact fun _ _=>rfl
 ·intro _ e; rw [gq (by omega),h5] at e; cases e
theorem r8_5 (h:R8 v ta ea V0 V1 V2 x f W) (h4:x[4]? = some true) (h5:x[5]? = some false):R8 v ta ea V0 V1 V2 (x.set 5 true) (upd f 5 ea) V2:=by
 refine ⟨?_,?_,?_,?_,?_,?_,?_,?_⟩
 ·rw [gq (by omega),zo _ _ (by omega)]; exact h.f0
 ·rw [gq (by omega),zo _ _ (by omega)]; exact h.f1
 ·rw [gq (by omega),zo _ _ (by omega)]; exact h.f2
 ·rw [gq (by omega),zo _ _ (by omega)]; exact h.f3
 ·intro _; exact zn _ _ _
 ·intro e; rw [gq (by omega),h4] at e; cases e
 ·intro _ e; rw [gqs h5] at e; cases e
 ·exact fun _ _=>rfl
end
theorem cW {B b:Nat} {v:Value} {l:List Od} (L:b < B):∀ (vs:List Value) (o:Nat) (W:World),ORow W B v l→ORow (W.setCells b o vs) B v l
 | [],_,_,h=>h
 | u :: us,o,W,h=>by rw [World.setCells]; exact cW L us (o + 1) _ (bw h L o u)
theorem dM {W:World} {b o p k:Nat} {cs vs:List Value} (h:W.rangeAt b o cs) (L:p ≠ b):(W.setCells p k vs).rangeAt b o cs:=fun j u R =>
 (World.cell?_setCells_out p vs k W (J b (o + j)) (fun e=>absurd e.symm L)).trans (h j u R)
theorem hit_same {l:List Od} {i:Nat} {o:Od} {q:Int} (h:o.left - q = 0):(l.set i { o with left:=o.left - q }).take i ++ (l.set i { o with left:=o.left - q }).drop (i + 1) = az l i o q:=by
 have:o.left = q:=by omega
 rw [az,if_pos this,List.take_set_of_le tg,List.drop_set_of_lt (by omega)]
theorem hit_less {l:List Od} {i:Nat} {o:Od} {q:Int} (h:o.left - q ≠ 0):l.set i { o with left:=o.left - q } = az l i o q:=by
 have:o.left ≠ q:=by omega
 rw [az,if_neg this]
def DH (S b off i n A:Nat) (uy uK q xw:Int) (base:Nat) (p:Prop) (W:World):Nat→Value→Prop
 | 0,v=>v = I S 0
 | 1,v=>v = H uy
 | 2,v=>v = .slice (some (J b off)) n A
 | 3,v=>v = H i
 | 4,v=>v = I b (off + i * 6)
 | 5,v=>v = I b (off + i * 6)
 | 6,v=>v = H uK
 | 7,v=>v = H q
 | 8,v=>v = .slice (some (J b off)) n A
 | 9,v=>v = H i
 | 10,v=>v = I b (off + i * 6)
 | 11,v=>v = I b (off + i * 6 + 2)
 | 12,v=>v = H xw
 | 13,v=>v = .agg (yu 3 0 0 0 0 0 0 0 ⟨#[]⟩ uy uK q xw 0).toArray
 | 14,v=>∃ c,v = I c 0∧base ≤ c∧c < W.heap.size∧W.there c 0 14∧(p→W.rangeAt c 0 (yu 3 0 0 0 0 0 0 0 ⟨#[]⟩ uy uK q xw 0))
 | _,_=>True
theorem dh_grow {S b off i n A:Nat} {uy uK q xw:Int} {base:Nat} {p:Prop} {V V':World} (L:yn V V'):∀ j v,DH S b off i n A uy uK q xw base p V j v→DH S b off i n A uy uK q xw base p V' j v:=by
 intro j v h
 match j with
 | 0 | 1 | 2 | 3 | 4 | 5 | 6 | 7 | 8 | 9 | 10 | 11 | 12 | 13=>exact h
 | 14=>obtain ⟨c,Q,N,h3,h4,h5⟩:=h; exact ⟨c,Q,N,yJ h3 L.size,zf h4 L h3,fun hp=>zb (h5 hp) L h3⟩
 | j + 15=>trivial
theorem dh_last {S b off i n A:Nat} {uy uK q xw:Int} {base:Nat} {V V':World} {v:Value}:∀ j,j ≠ 15→DH S b off i n A uy uK q xw base False V j v→(j = 14→DH S b off i n A uy uK q xw base True V' 14 v)→DH S b off i n A uy uK q xw base True V' j v:=by
 intro j R h ji
 match j with
 | 0 | 1 | 2 | 3 | 4 | 5 | 6 | 7 | 8 | 9 | 10 | 11 | 12 | 13=>exact h
 | 14=>exact ji rfl
 | j + 15=>trivial
theorem hit_mid {V w1:World} {v1:Value} {l:List Od} (xB:l ≠ []) (hl:l.length ≤ 1000) (h6:w1.ownsRow V.heap.size 66 6 v1 (0 + l.length) ([] ++ l.flatMap Od.vs)) (h7:(V.alloc (E #[] 66)).grownBy w1 (Value.slice (some (J V.heap.size 0)) 0 0).ownBlock) :
  ∃ g cp,v1 = .slice (some (J g 0)) l.length cp∧l.length ≤ cp∧V.heap.size ≤ g∧g < w1.heap.size∧ORow w1 V.heap.size v1 l∧yn V w1:=by
 have Z:ORow w1 V.heap.size v1 l:=by
  show w1.ownsRow _ _ _ _ l.length _
  simpa using h6
 obtain ⟨g,cp,e,Q,N,h3⟩:=df Z xB
 exact ⟨g,cp,e,Q,N,h3,Z,(ed _ _).grown h7 (by rw [ze]; omega) (fun k hk=>by simp [Value.ownBlock] at hk; omega)⟩
theorem row_here {W:World} {B g n cp i:Nat} {l:List Od} {o:Od} (h:ORow W B (.slice (some (J g 0)) n cp) l) (hl:l.length ≤ 1000) (hi:l[i]? = some o):W.rangeAt g (i * 6) o.vs∧∀ j,j < 6→W.frozen? (J g (i * 6 + j)) = false:=by
 obtain ⟨a',c',e,_,hc⟩:=zK h (by omega)
 obtain ⟨b',uJ,e2,_,hc⟩:=hc (by rintro rfl; simp at hi)
 rw [e2] at e
 simp only [Value.slice.injEq,Option.some.injEq,Addr.mk.injEq,and_true] at e
 obtain ⟨⟨rfl,rfl⟩,-⟩:=e
 refine ⟨by simpa using hc i o hi,fun j R=>?_⟩
 rcases h.2 with ⟨Q,_⟩ | ⟨g',pw,xr,Q,_,h3,h4,_,h5,_⟩
 ·cases Q
 ·simp only [Value.slice.injEq,Option.some.injEq,Addr.mk.injEq,and_true] at Q
  obtain ⟨rfl,-⟩:=Q
  have hil:=(yG.1 hi).1
  have:=(cn h3 tg (i * 6 + j) (by rw [h5]; omega)).2
  rwa [Nat.zero_add] at this
theorem range_left {W:World} {S g k:Nat} {a0 a1 a2 a3 a4 a5 x y:Value} (h:W.rangeAt S 0 [a0,a1,a2,a3,a4,a5]) (hg:g ≠ S):((W.setCell (J g k) x).setCell (J S 3) y).rangeAt S 0 [a0,a1,a2,y,a4,a5]:=by
 have Z:∀ j,j ≠ 3→((W.setCell (J g k) x).setCell (J S 3) y).cell? (J S j) = W.cell? (J S j):=fun j R=>(yL _ _ _ _ (zO (fun e=>R e.symm))).trans (yL _ _ _ _ (fun e=>hg (congrArg Addr.block e)))
 intro j u R
 rw [Nat.zero_add]
 match j,R with
 | 0,R=>cases R; exact (Z 0 (by omega)).trans (h 0 _ rfl)
 | 1,R=>cases R; exact (Z 1 (by omega)).trans (h 1 _ rfl)
 | 2,R=>cases R; exact (Z 2 (by omega)).trans (h 2 _ rfl)
 | 3,R=>cases R; exact yM _ _ _ ((yL _ _ _ _ (fun e=>hg (congrArg Addr.block e))).trans (h 3 _ rfl))
 | 4,R=>cases R; exact (Z 4 (by omega)).trans (h 4 _ rfl)
 | 5,R=>cases R; exact (Z 5 (by omega)).trans (h 5 _ rfl)
 | j + 6,R=>simp at R
theorem range_far {W:World} {b o p k:Nat} {cs:List Value} {x:Value} (h:W.rangeAt b o cs) (L:p ≠ b):(W.setCell (J p k) x).rangeAt b o cs:=fun j u R =>
 (yL _ _ _ _ (fun e=>L (congrArg Addr.block e))).trans (h j u R)
theorem l04Hit_any (v:Value) (l:List Od) (t o:Od) (i:Nat) (w:World) (hr:RdR Od.vs 6 w v l) (hn:l.length ≤ 1000) (oo:l[i]? = some o) (ht0:0 ≤ t.left) (ht1:t.left ≤ 1000000) (ho0:0 ≤ o.left) (qb:o.left ≤ 1000000) :
  Calls Tryz.prog 73 #[v,.agg (yv t.id t.side t.ticks t.left t.life t.tag).toArray,H i] w fun e w'=>∃ v',e = .returned (.tuple #[v',.agg (Od.vs { t with left:=t.left - min t.left o.left }).toArray,.agg (Ev.vs (trE t.id o.id (min t.left o.left) o.ticks)).toArray])∧ORow w' w.heap.size v' (az l i o (min t.left o.left))∧yn w w':=by
 obtain ⟨i0,uE,uA,uC,uM⟩:=info_parts Tryz.infoOrder
 have hil:=(yG.1 oo).1
 have xB:l ≠ []:=by rintro rfl; simp at oo
 have HNE:=Y xB
 obtain ⟨a,A,rfl,xD,hc⟩:=hr
 obtain ⟨b,off,rfl,L,xo⟩:=hc xB
 have qk:=Y xo
 have HIO:=Y oo
 obtain ⟨uy,uq,xR,xI,uo,uQ⟩:=t
 obtain ⟨uK,uT,xw,xH,uS,qc⟩:=o
 simp only at ht0 ht1 ho0 qb ⊢
 generalize hq:min xI xH = q
 have hqa:0 ≤ q:=by omega
 have hqb:q ≤ xI:=by omega
 have hqc:q ≤ xH:=by omega
 have HQ:=Y hq
 clear xo hc oo xB hq xD
 have xA:=ze w (E (yv uy uq xR xI uo uQ).toArray 66)
 have uc:((w.alloc (E (yv uy uq xR xI uo uQ).toArray 66)).alloc (E (yv 0 0 0 0 0 ⟨#[]⟩).toArray 66)).heap.size = w.heap.size + 1 + 1:=by rw [ze,xA]
 have qG:(((w.alloc (E (yv uy uq xR xI uo uQ).toArray 66)).alloc (E (yv 0 0 0 0 0 ⟨#[]⟩).toArray 66)).alloc (E (yu 0 0 0 0 0 0 0 0 ⟨#[]⟩ 0 0 0 0 0).toArray 41)).heap.size = w.heap.size + 1 + 1 + 1:=by rw [ze,uc]
 have r1:=zg w (yv uy uq xR xI uo uQ) 66
 have t1:=zu w (yv uy uq xR xI uo uQ) 66
 have t2:=zu (w.alloc (E (yv uy uq xR xI uo uQ).toArray 66)) (yv 0 0 0 0 0 ⟨#[]⟩) 66
 have t3:=zu ((w.alloc (E (yv uy uq xR xI uo uQ).toArray 66)).alloc (E (yv 0 0 0 0 0 ⟨#[]⟩).toArray 66)) (yu 0 0 0 0 0 0 0 0 ⟨#[]⟩ 0 0 0 0 0) 41
 rw [xA] at t2
 rw [uc] at t3
 have b1:=ed w (E (yv uy uq xR xI uo uQ).toArray 66)
 have b2:Below (w.heap.size + 1) (w.alloc (E (yv uy uq xR xI uo uQ).toArray 66)) ((w.alloc (E (yv uy uq xR xI uo uQ).toArray 66)).alloc (E (yv 0 0 0 0 0 ⟨#[]⟩).toArray 66)):=(Below.refl _ _).alloc (by omega) _
 have b3:Below (w.heap.size + 1 + 1) ((w.alloc (E (yv uy uq xR xI uo uQ).toArray 66)).alloc (E (yv 0 0 0 0 0 ⟨#[]⟩).toArray 66)) (((w.alloc (E (yv uy uq xR xI uo uQ).toArray 66)).alloc (E (yv 0 0 0 0 0 ⟨#[]⟩).toArray 66)).alloc (E (yu 0 0 0 0 0 0 0 0 ⟨#[]⟩ 0 0 0 0 0).toArray 41)):=(Below.refl _ _).alloc (by omega) _
 have b23:=b2.trans (b3.mono (by omega))
 have HX:Hid (World.rangeAt _ w.heap.size 0 _∧World.there _ w.heap.size 0 6∧World.there _ (w.heap.size + 1) 0 6∧World.there _ (w.heap.size + 1 + 1) 0 14):=⟨zb r1 b23 (by omega),zf t1 b23 (by omega),zf t2 b3 (by omega),t3⟩
 have xT:=Y (b1.trans (b23.mono (by omega)))
 have kF:=Y qG
 clear xA uc qG r1 t1 t2 t3 b1 b2 b3 b23
 go_enter Tryz.func73,Tryz.ntmps73
 refine ei fun hR xu=>?_
 go_wp2_with fail
 refine U xu _ _ ?_
 clear xu
 generalize (((w.alloc (E (yv uy uq xR xI uo uQ).toArray 66)).alloc (E (yv 0 0 0 0 0 ⟨#[]⟩).toArray 66)).alloc (E (yu 0 0 0 0 0 0 0 0 ⟨#[]⟩ 0 0 0 0 0).toArray 41)) = ty at HX xT kF ⊢
 have HX:Hid (ty.rangeAt w.heap.size 0 (yv uy uq xR xI uo uQ)∧ty.there w.heap.size 0 6∧ty.there (w.heap.size + 1) 0 6∧ty.there (w.heap.size + 1 + 1) 0 14):=U HX
 have t3:ty.cell? (J w.heap.size 3) = some (H xI):=(U HX).1 3 _ rfl
 have HCX:Hid (∀ j c,l[j]? = some c→ty.rangeAt b (off + j * 6) c.vs):=fun j c R=>zb (U qk j c R) (U xT) L
 have o3:ty.cell? (J b (off + i * 6 + 3)) = some (H xH):=U HCX i _ (U HIO) 3 _ rfl
 have hil':(i:Int) < l.length:=by omega
 have hii:(0:Int) ≤ i:=by omega
 refine ei fun hR xu=>?_
 go_wp2_with fail
 go_quiet (fail)
 refine U xu _ _ ?_
 clear xu
 have hif:(if xH < xI then xH else xI) = q:=by have:=U HQ; split <;> omega
 simp only [hif]
 have jG:Hid ((ty.drewN nq).rangeAt w.heap.size 0 (yv uy uq xR xI uo uQ)∧(ty.drewN nq).there w.heap.size 0 6∧(ty.drewN nq).there (w.heap.size + 1) 0 6∧(ty.drewN nq).there (w.heap.size + 1 + 1) 0 14):=U HX
 have xW:Hid (yn w (ty.drewN nq)):=cH (U xT) _
 have HS1:Hid ((ty.drewN nq).heap.size = w.heap.size + 1 + 1 + 1):=U kF
 have pT:Hid (∀ j c,l[j]? = some c→(ty.drewN nq).rangeAt b (off + j * 6) c.vs):=U HCX
 clear t3 o3 hif HX xT kF HCX
 generalize ty.drewN nq = yb at jG xW HS1 pT ⊢
 refine ei fun hR xu=>?_
 refine zh (RG yb (fun f=>{ tmps:=#[.slice (some (J b off)) l.length A,.agg (yv uy uq xR xI uo uQ).toArray,H i,M,I w.heap.size 0,M,.slice none 0 0,I (w.heap.size + 1) 0,I (w.heap.size + 1 + 1) 0,H q,f 14,M,I w.heap.size 3,H xI,.slice (some (J b off)) l.length A,H i,I b (off + i * 6),I b (off + i * 6 + 3),H xH,H q,f 0,f 1,f 2,f 3,f 4,f 5,f 6,f 7,f 8,f 9,f 10,f 11,f 12,f 13,M,M,M,M,M,M,M,M,M,M,M,M,M,M,M,M,M,M,M,M,M,M,M,M,M,M,M,M,M,M,M,M,M,M,M,M],defers:=[] }) 15 (DH w.heap.size b off i l.length A uy uK q xw yb.heap.size)) (by kernel_rfl) ?_ ?_ ?_
 ·exact ⟨fun _=>M,rfl,⟨rfl,rfl,rfl,Nat.le_refl _,fun _ _=>rfl⟩,fun j R=>by rw [yI] at R; split at R <;> simp at R⟩
 ·rintro x xm V ⟨f,rfl,xk,hD⟩ hx xP
  have xp:=zT xP hx (acyc _ (by kernel_rfl))
  have k15:x[15]? = some true:=xp 15 (by simp)
  obtain ⟨c,e14,pC,kW,-,hcr⟩:=hD 14 (xp 14 (by simp))
  have pV:=Y (hcr k15)
  refine U xu _ _ ?_
  clear xu
  have HS:=U HS1
  have hsv:=xk.size
  have HXV:Hid (V.rangeAt w.heap.size 0 (yv uy uq xR xI uo uQ)∧V.there w.heap.size 0 6∧V.there (w.heap.size + 1) 0 6∧V.there (w.heap.size + 1 + 1) 0 14):=⟨zb (U jG).1 xk (by omega),zf (U jG).2.1 xk (by omega),zf (U jG).2.2.1 xk (by omega),zf (U jG).2.2.2 xk (by omega)⟩
  have xv:=Y (eh (U xW) xk)
  have vr:b < yb.heap.size:=by omega
  have kp:Hid (∀ j c,l[j]? = some c→V.rangeAt b (off + j * 6) c.vs):=fun j c R=>zb (U pT j c R) xk vr
  have hcS:w.heap.size + 1 + 1 < c:=by omega
  simp only [e14]
  generalize f 0 = u20,f 1 = u21,f 2 = u22,f 3 = u23,f 4 = u24,f 5 = u25,f 6 = u26,f 7 = u27,f 8 = u28,f 9 = u29,f 10 = u30,f 11 = u31,f 12 = u32,f 13 = u33
  clear hD xp k15 e14 hcr xP hx xk pC jG xW pT HS1 HS
  have vG:=Y (World.ownsRow_made (base:=V.heap.size) (e:=66) (size:=6) V #[] 0 tg (by decide) rfl)
  have uZ:Hid (∀ j u,(l.flatMap Od.vs)[j]? = some u→(V.alloc (E #[] 66)).cell? (((J b off):Addr).add j) = some u):=fun j u hu=>by
   have h:=cJ (W:=V.alloc (E #[] 66)) (g:=b) (off:=off) (l:=l) (fun i c hi=>zb (U kp i c hi) ((Below.refl V.heap.size V).alloc tg _) (by omega)) 0 l.length j u (by simpa using hu)
   simpa using h
  refine ei fun hR xu=>?_
  go_wp2_with (at_builtin; go_must (refine wpList_append_own _ rfl _ _ 29 rfl V.heap.size 66 i0 _ 6 56 Tryz.underlying29 uE uA uC uM rfl (by decide) (.slice (some (J V.heap.size 0)) 0 0) 0 [] rfl (U vG) (J b off) l.length A (l.flatMap Od.vs) rfl (by rw [zH Od.len]) (U uZ) (bd l) (by unfold maxLen; omega) (by omega) (by simp) ?_); intro v1 w1 uY vV _; obtain ⟨g,cp,rfl,vY,hVg,hgw,ho1',xX⟩:=hit_mid (U HNE) hn uY vV; have vh:=Y ho1'; have xW:=Y xX; clear uY vV ho1' xX)
  refine U xu _ _ ?_
  clear xu uZ vG
  have jG:Hid (w1.rangeAt w.heap.size 0 (yv uy uq xR xI uo uQ)∧w1.there w.heap.size 0 6∧w1.there (w.heap.size + 1) 0 6∧w1.there (w.heap.size + 1 + 1) 0 14):=⟨zb (U HXV).1 (U xW) (by omega),zf (U HXV).2.1 (U xW) (by omega),zf (U HXV).2.2.1 (U xW) (by omega),zf (U HXV).2.2.2 (U xW) (by omega)⟩
  have pn:=Y (zb (U pV) (U xW) kW)
  have xE:=Y ((U xv).trans ((U xW).mono (U xv).size))
  have uV:=row_here (U vh) hn (U HIO)
  have c3:w1.cell? (J g (i * 6 + 3)) = some (H xH):=uV.1 3 _ rfl
  have f3:w1.frozen? (J g (i * 6 + 3)) = false:=uV.2 3 (by omega)
  have t3:w1.cell? (J w.heap.size 3) = some (H xI):=(U jG).1 3 _ rfl
  have s3:w1.frozen? (J w.heap.size 3) = false:=by have:=((U jG).2.1 3 (by omega)).2; rwa [Nat.zero_add] at this
  have hgS:g ≠ w.heap.size:=by omega
  have hSg:w.heap.size ≠ g:=by omega
  have jn:-9223372036854775808 ≤ xH - q:=by omega
  have hq2:xH - q ≤ 9223372036854775807:=by omega
  have hq3:-9223372036854775808 ≤ xI - q:=by omega
  have hq4:xI - q ≤ 9223372036854775807:=by omega
  clear uV
  refine ei fun hR xu=>?_
  go_wp2_with fail
  refine U xu _ _ ?_
  clear xu
  refine ei fun hR xu=>?_
  go_wp2_with fail
  refine U xu _ _ ?_
  clear xu
  have HZO:Hid (ORow ((w1.setCell (J g (i * 6 + 3)) (H (xH - q))).setCell (J w.heap.size 3) (H (xI - q))) V.heap.size (.slice (some (J g 0)) l.length cp) (l.set i ⟨uK,uT,xw,xH - q,uS,qc⟩)):=zr (oRow_left (U vh) rfl (U HIO) (xH - q)).1 (by simp [Value.ownBlock]; omega) _ _
  have HZT:=Y (range_left (k:=i * 6 + 3) (x:=H (xH - q)) (y:=H (xI - q)) (U jG).1 hgS)
  have HZE:=Y (range_far (p:=w.heap.size) (k:=3) (x:=H (xI - q)) (range_far (p:=g) (k:=i * 6 + 3) (x:=H (xH - q)) (U pn) (by omega)) (by omega))
  have HZ1:=Y (zB (c:=w.heap.size) (j:=3) (u:=H (xI - q)) (zB (c:=g) (j:=i * 6 + 3) (u:=H (xH - q)) (U jG).2.2.1))
  have HZ2:=Y (zB (c:=w.heap.size) (j:=3) (u:=H (xI - q)) (zB (c:=g) (j:=i * 6 + 3) (u:=H (xH - q)) (U jG).2.2.2))
  have HZB:=Y (((U xE).setCell (p:=(J g (i * 6 + 3))) (by simp; omega) (H (xH - q))).setCell (p:=(J w.heap.size 3)) tg (H (xI - q)))
  have hgz:g < ((w1.setCell (J g (i * 6 + 3)) (H (xH - q))).setCell (J w.heap.size 3) (H (xI - q))).heap.size:=by simp [World.setCell]; exact hgw
  have z3:((w1.setCell (J g (i * 6 + 3)) (H (xH - q))).setCell (J w.heap.size 3) (H (xI - q))).cell? (J g (i * 6 + 3)) = some (H (xH - q)):=(yL _ _ _ _ (fun e=>hSg (congrArg Addr.block e))).trans (yM _ _ _ c3)
  generalize ((w1.setCell (J g (i * 6 + 3)) (H (xH - q))).setCell (J w.heap.size 3) (H (xI - q))) = ho at HZO HZT HZE HZ1 HZ2 HZB hgz z3 ⊢
  clear c3 f3 t3 s3 jG pn xE vh xW HXV pV xv kp hgw
  refine ei fun hR xu=>?_
  have HT:Hid (∀ (u0 u1 u2 u3 u5 u6 u9 u12 u13 u14 u15 u16 u17 u18 u19 u20 u21 u22 u23 u24 u25 u26 u27 u28 u29 u30 u31 u32 u33 u34 u35 u36 u37 u38 u39 u40 u41 u42 u43 u44 u45 u46 u47 u48 u49 u50 u51 u52 u53 u54 u55 u56 u57 u58 u59 u60 u61 u62 u63 u64 u65 u66 u67 u68 u69 v11:Value) (Z':World),ORow Z' (w.heap.size + 1 + 1 + 1) v11 (az l i ⟨uK,uT,xw,xH,uS,qc⟩ q)→yn w Z'→Z'.rangeAt w.heap.size 0 (yv uy uq xR (xI - q) uo uQ)→Z'.there (w.heap.size + 1) 0 6→Z'.there (w.heap.size + 1 + 1) 0 14→Z'.rangeAt c 0 (yu 3 0 0 0 0 0 0 0 ⟨#[]⟩ uy uK q xw 0)→hR { tmps:=#[u0,u1,u2,u3,I w.heap.size 0,u5,u6,I (w.heap.size + 1) 0,I (w.heap.size + 1 + 1) 0,u9,I c 0,v11,u12,u13,u14,u15,u16,u17,u18,u19,u20,u21,u22,u23,u24,u25,u26,u27,u28,u29,u30,u31,u32,u33,u34,u35,u36,u37,u38,u39,u40,u41,u42,u43,u44,u45,u46,u47,u48,u49,u50,u51,u52,u53,u54,u55,u56,u57,u58,u59,u60,u61,u62,u63,u64,u65,u66,u67,u68,u69],defers:=[] } Z'):=by
   intro u0 u1 u2 u3 u5 u6 u9 u12 u13 u14 u15 u16 u17 u18 u19 u20 u21 u22 u23 u24 u25 u26 u27 u28 u29 u30 u31 u32 u33 u34 u35 u36 u37 u38 u39 u40 u41 u42 u43 u44 u45 u46 u47 u48 u49 u50 u51 u52 u53 u54 u55 u56 u57 u58 u59 u60 u61 u62 u63 u64 u65 u66 u67 u68 u69 v11 Z' hO hB hT Q N hE
   refine U xu _ _ ?_
   have HO:=Y hO
   have HB:=Y hB
   have oj:=Y hT
   have HE:=Y hE
   have HH1:=Y Q
   have HH2:=Y N
   clear hO hB hT hE Q N xu
   obtain ⟨V0,oW⟩:∃ V:World,V = { Z' with drawn:=Z'.drawn + 1 }:=⟨_,rfl⟩
   have HO:Hid (ORow V0 (w.heap.size + 1 + 1 + 1) v11 (az l i ⟨uK,uT,xw,xH,uS,qc⟩ q)):=by rw [oW]; exact U HO
   have HB:Hid (yn w V0):=by rw [oW]; exact (U HB).trans ⟨rfl,rfl,rfl,Nat.le_refl _,fun _ _=>rfl⟩
   have oj:Hid (V0.rangeAt w.heap.size 0 (yv uy uq xR (xI - q) uo uQ)):=by rw [oW]; exact U oj
   have HE:Hid (V0.rangeAt c 0 (yu 3 0 0 0 0 0 0 0 ⟨#[]⟩ uy uK q xw 0)):=by rw [oW]; exact U HE
   have HH1:Hid (V0.there (w.heap.size + 1) 0 6):=by rw [oW]; exact U HH1
   have HH2:Hid (V0.there (w.heap.size + 1 + 1) 0 14):=by rw [oW]; exact U HH2
   obtain ⟨V1,qi⟩:∃ V:World,V = V0.setCells (w.heap.size + 1) 0 (yv uy uq xR (xI - q) uo uQ):=⟨_,rfl⟩
   obtain ⟨V2,kK⟩:∃ V:World,V = V1.setCells (w.heap.size + 1 + 1) 0 (yu 3 0 0 0 0 0 0 0 ⟨#[]⟩ uy uK q xw 0):=⟨_,rfl⟩
   have vh:Hid (ORow V1 (w.heap.size + 1 + 1 + 1) v11 (az l i ⟨uK,uT,xw,xH,uS,qc⟩ q)):=by rw [qi]; exact cW (by omega) _ _ _ (U HO)
   have xW:Hid (yn w V1):=by rw [qi]; exact zm _ (by omega) _ _ _ (U HB)
   have jD:Hid (V1.rangeAt (w.heap.size + 1) 0 (yv uy uq xR (xI - q) uo uQ)):=by rw [qi]; exact yX V0 _ 0 _ (fun j R=>U HH1 j R)
   have pn:Hid (V1.rangeAt c 0 (yu 3 0 0 0 0 0 0 0 ⟨#[]⟩ uy uK q xw 0)):=by rw [qi]; exact dM (U HE) (by omega)
   have HH3:Hid (V1.there (w.heap.size + 1 + 1) 0 14):=by rw [qi]; exact xb (U HH2) _ _ _
   have HOE:Hid (ORow V2 w.heap.size v11 (az l i ⟨uK,uT,xw,xH,uS,qc⟩ q)):=by rw [kK]; exact bO (cW (by omega) _ _ _ (U vh)) (by omega)
   have kB:Hid (yn w V2):=by rw [kK]; exact zm _ (by omega) _ _ _ (U xW)
   have oC:Hid (V2.rangeAt (w.heap.size + 1 + 1) 0 (yu 3 0 0 0 0 0 0 0 ⟨#[]⟩ uy uK q xw 0)):=by rw [kK]; exact yX V1 _ 0 _ (fun j R=>U HH3 j R)
   have jD:Hid (V2.rangeAt (w.heap.size + 1) 0 (yv uy uq xR (xI - q) uo uQ)):=by rw [kK]; exact dM (U jD) (by omega)
   have HV0:=Y oW
   have HV1:=Y qi
   have HV2:=Y kK
   clear oW qi kK HO HB vh xW
   go_wp2_with fail
   refine zh (R8A (fun f=>{ tmps:=#[u0,u1,u2,u3,I w.heap.size 0,u5,f 3,I (w.heap.size + 1) 0,I (w.heap.size + 1 + 1) 0,u9,I c 0,v11,u12,u13,u14,u15,u16,u17,u18,u19,u20,u21,u22,u23,u24,u25,u26,u27,u28,u29,u30,u31,u32,u33,u34,u35,u36,u37,u38,u39,u40,u41,u42,u43,u44,u45,u46,u47,u48,u49,u50,u51,u52,u53,u54,u55,u56,u57,u58,u59,u60,u61,u62,u63,u64,u65,u66,f 0,f 1,f 2],defers:=[] }) v11 (.agg (yv uy uq xR (xI - q) uo uQ).toArray) (.agg (yu 3 0 0 0 0 0 0 0 ⟨#[]⟩ uy uK q xw 0).toArray) V0 V1 V2) (by kernel_rfl) ?_ ?_ ?_
   ·exact ⟨fun j=>if j = 3 then u6 else if j = 0 then u67 else if j = 1 then u68 else u69,rfl,⟨by simp,by simp,by simp,by simp,by simp,fun _=>(U HV0).symm,by simp,by simp⟩⟩
   ·rintro x xm V' ⟨f,rfl,K⟩ hx xP
    have xp:=zP xP hx (by kernel_rfl)
    have e3:=K.f3 (xp 3 (by simp))
    have eW:=K.s2 (xp 4 (by simp)) (xp 5 (by simp))
    subst eW
    simp only [e3]
    clear K xp e3 xP hx
    obtain ⟨d0,d1,d2,d3,d4,d5⟩:=yC (U jD)
    obtain ⟨e0,e1,e2,e3,e4,e5,e6,e7,e8,e9,oD,e11,e12,e13⟩:=yF (U oC)
    go_wp2_with fail
    try simp only [Exit.inBlock,Exit.then]
    refine bodyPost_ret (by simp [results,Tryz.results73,go_sem,d0,d1,d2,d3,d4,d5,e0,e1,e2,e3,e4,e5,e6,e7,e8,e9,oD,e11,e12,e13]; try rfl) rfl ?_
    exact ⟨v11,rfl,U HOE,U kB⟩
   ·rintro x xm V' i' o' ⟨f,rfl,K⟩ xo hx Z xy D
    have n5:i' < 5→x[5]? = some false:=fun xK=>by
     rcases bE hx (show 5 < 6 by omega) with h | h
     ·exact h
     ·have:=xo 5 _ rfl h ⟨i',.phase⟩ (by rcases (by omega:i' = 0 ∨ i' = 1 ∨ i' = 2 ∨ i' = 3 ∨ i' = 4) with rfl | rfl | rfl | rfl | rfl <;> simp) rfl
      rw [xy] at this; cases this
    have n4:i' = 0 ∨ i' = 1 ∨ i' = 3→x[4]? = some false:=fun xK=>by
     rcases bE hx (show 4 < 6 by omega) with h | h
     ·exact h
     ·have:=xo 4 _ rfl h ⟨i',.phase⟩ (by rcases xK with rfl | rfl | rfl <;> simp) rfl
      rw [xy] at this; cases this
    have xz:=Y K
    clear xo
    match i',Z with
    | 0,Z =>
     obtain rfl:=ya Z
     clear D K
     rw [if_pos (by rfl)];unfold Oper.wp;go_simp
     exact ⟨upd f 0 v11,by simp [upd],r8_val (U xz) 0 _ (by omega) (fun _=>rfl) (by omega) (by omega) (by omega)⟩
    | 1,Z =>
     obtain rfl:=ya Z
     have eV:=K.s0 (n4 (by omega))
     subst eV
     obtain ⟨c0,c1,c2,c3,c4,c5⟩:=yC (U oj)
     clear D K
     rw [if_pos (by rfl)];unfold Oper.wp;go_simp
     exact ⟨upd f 1 (.agg (yv uy uq xR (xI - q) uo uQ).toArray),by simp [upd],r8_val (U xz) 1 _ (by omega) (by omega) (fun _=>rfl) (by omega) (by omega)⟩
    | 2,Z =>
     obtain rfl:=ya Z
     have vJ:Hid (V'.rangeAt c 0 (yu 3 0 0 0 0 0 0 0 ⟨#[]⟩ uy uK q xw 0)):=by
      rcases bE hx (show 4 < 6 by omega) with h | h
      ·rw [K.s0 h]; exact U HE
      ·rw [K.s1 h (n5 (by omega))]; exact U pn
     obtain ⟨c0,c1,c2,c3,c4,c5,c6,c7,c8,c9,c10,c11,c12,c13⟩:=yF (U vJ)
     clear D K
     rw [if_pos (by rfl)];unfold Oper.wp;go_simp
     exact ⟨upd f 2 (.agg (yu 3 0 0 0 0 0 0 0 ⟨#[]⟩ uy uK q xw 0).toArray),by simp [upd],r8_val (U xz) 2 _ (by omega) (by omega) (by omega) (fun _=>rfl) (by omega)⟩
    | 3,Z =>
     obtain rfl:=ya Z
     have g0:=K.f0 (ye D 0 rfl)
     clear D K
     rw [if_pos (by rfl)];unfold Oper.wp;go_simp
     exact ⟨upd f 3 v11,by simp [upd,g0],r8_val (U xz) 3 _ (by omega) (by omega) (by omega) (by omega) (fun _=>rfl)⟩
    | 4,Z =>
     obtain rfl:=ya Z
     have g1:=K.f1 (ye D 1 rfl)
     have eV:=K.s0 xy
     subst eV
     have xG:=U HH1
     obtain ⟨y0,z0,q0⟩:=zc xG (j:=0) (by omega)
     obtain ⟨y1,z1,q1⟩:=zc xG (j:=1) (by omega)
     obtain ⟨y2,z2,q2⟩:=zc xG (j:=2) (by omega)
     obtain ⟨y3,z3,q3⟩:=zc xG (j:=3) (by omega)
     obtain ⟨y4,z4,q4⟩:=zc xG (j:=4) (by omega)
     obtain ⟨y5,z5,q5⟩:=zc xG (j:=5) (by omega)
     have n5':=n5 (by omega)
     clear D K xG
     rw [if_pos (by rfl)];unfold Oper.wp;go_simp
     have HR4:=r8_4 (U xz) xy n5'
     conv at HR4=>arg 9; rw [U HV1]
     exact ⟨f,by simp [g1],HR4⟩
    | 5,Z =>
     obtain rfl:=ya Z
     have g2:=K.f2 (ye D 2 rfl)
     have k4:x[4]? = some true:=D ⟨4,.chain⟩ (by simp) rfl
     have eV:=K.s1 k4 xy
     subst eV
     have xG:=U HH3
     have HR5:=Y (r8_5 (U xz) k4 xy)
     clear xz K
     obtain ⟨y0,z0,q0⟩:=zc xG (j:=0) (by omega)
     obtain ⟨y1,z1,q1⟩:=zc xG (j:=1) (by omega)
     obtain ⟨y2,z2,q2⟩:=zc xG (j:=2) (by omega)
     obtain ⟨y3,z3,q3⟩:=zc xG (j:=3) (by omega)
     obtain ⟨y4,z4,q4⟩:=zc xG (j:=4) (by omega)
     obtain ⟨y5,z5,q5⟩:=zc xG (j:=5) (by omega)
     obtain ⟨y6,z6,q6⟩:=zc xG (j:=6) (by omega)
     obtain ⟨y7,z7,q7⟩:=zc xG (j:=7) (by omega)
     obtain ⟨y8,z8,q8⟩:=zc xG (j:=8) (by omega)
     obtain ⟨y9,z9,q9⟩:=zc xG (j:=9) (by omega)
     obtain ⟨y10,z10,q10⟩:=zc xG (j:=10) (by omega)
     obtain ⟨y11,z11,q11⟩:=zc xG (j:=11) (by omega)
     obtain ⟨y12,z12,q12⟩:=zc xG (j:=12) (by omega)
     obtain ⟨y13,z13,q13⟩:=zc xG (j:=13) (by omega)
     have hsf:=sfl
     clear D xG
     rw [if_pos (by rfl)];unfold Oper.wp;go_simp
     have HR6:=U HR5
     conv at HR6=>arg 9; rw [U HV2]
     exact ⟨upd f 5 (.agg (yu 3 0 0 0 0 0 0 0 ⟨#[]⟩ uy uK q xw 0).toArray),by simp [upd,g2],HR6⟩
    | i' + 6,Z=>simp at Z
  clear xu
  by_cases hz:xH - q = 0
  ·have b0:(xH - q == 0) = true:=by simpa using hz
   have HH:=Y (hit_same (l:=l) (i:=i) (o:=⟨uK,uT,xw,xH,uS,qc⟩) hz)
   clear hz
   generalize hleft:l.set i ⟨uK,uT,xw,xH - q,uS,qc⟩ = left at HZO HH
   have hll:left.length = l.length:=by rw [← hleft,List.length_set]
   clear hleft
   have HC7:Hid (∀ j c,left[j]? = some c→ho.rangeAt g (0 + j * 6) c.vs):=fun j c R=>by
    have:=(row_here (U HZO) (by omega) R).1
    rwa [Nat.zero_add]
   have hll1:l.length ≤ 1000:=hn
   have hicp:i ≤ cp:=by omega
   have pd:i + 1 ≤ l.length:=by omega
   have hi1':(i:Int) + 1 ≤ l.length:=by omega
   have hlcp:(l.length:Int) ≤ cp:=by omega
   have h0i:(0:Int) ≤ (i:Int) + 1:=by omega
   go_wp2_with fail
   clear z3
   refine dl (R7A (.slice (some (J g 0)) l.length cp) ho (C7 (.slice (some (J g 0)) l.length cp) g l.length cp i) (left.take i) (left.take i ++ left.drop (i + 1)) (fun f=>{ tmps:=#[.slice (some (J b off)) l.length A,.agg (yv uy uq xR xI uo uQ).toArray,H i,M,I w.heap.size 0,M,.slice none 0 0,I (w.heap.size + 1) 0,I (w.heap.size + 1 + 1) 0,H q,I c 0,f 10,I w.heap.size 3,H xI,.slice (some (J b off)) l.length A,H i,I b (off + i * 6),I b (off + i * 6 + 3),H xH,H q,u20,u21,u22,u23,u24,u25,u26,u27,u28,u29,u30,u31,u32,u33,.slice (some (J V.heap.size 0)) 0 0,.slice (some (J b off)) l.length A,.slice (some (J g 0)) l.length cp,.slice (some (J g 0)) l.length cp,H i,I g (i * 6),I g (i * 6 + 3),H xH,H q,H (xH - q),I g (i * 6),I g (i * 6 + 3),I w.heap.size 3,H xI,H q,H (xI - q),I w.heap.size 3,.slice (some (J g 0)) l.length cp,H i,I g (i * 6),I g (i * 6 + 3),H (xH - q),.bool true,f 0,f 1,f 2,f 3,f 4,f 5,f 6,f 7,f 8,f 9,M,M,M],defers:=[] })) (by kernel_rfl) ?_ ?_ ?_
   ·exact ⟨fun j=>if j = 10 then .slice (some (J g 0)) l.length cp else M,rfl,⟨⟨rfl,rfl,rfl,Nat.le_refl _,fun _ _=>rfl⟩,fun j R=>by rw [yI] at R; split at R <;> simp at R,fun _=>rfl,by simp,by simp,by simp,by simp,by simp,by simp,by simp⟩⟩
   ·rintro x xm V' ⟨f,rfl,K⟩ hx xP
    have xp:=zT xP hx (acyc _ (by kernel_rfl))
    have k9:x[9]? = some true:=xp 9 (by simp)
    have k10:x[10]? = some true:=xp 10 (by simp)
    have HO9:=Y (K.m9 k9)
    have oD:f 10 = f 9:=K.m10 k10
    have xv:=Y K.bel
    simp only [oD]
    clear K xp k9 k10 oD xP hx
    have jJ:=(U HZB).size
    refine U HT _ _ _ _ _ _ _ _ _ _ _ _ _ _ _ _ _ _ _ _ _ _ _ _ _ _ _ _ _ _ _ _ _ _ _ _ _ _ _ _ _ _ _ _ _ _ _ _ _ _ _ _ _ _ _ _ _ _ _ _ _ _ _ _ _ _ _ (by rw [← U HH]; exact bO (U HO9) (by omega)) ((U HZB).trans ((U xv).mono jJ)) (zb (U HZT) (U xv) (by omega)) (zf (U HZ1) (U xv) (by omega)) (zf (U HZ2) (U xv) (by omega)) (zb (U HZE) (U xv) (by omega))
   ·rintro x xm V i' o' ⟨f,rfl,K⟩ hx Z xy D
    have qq:=Y K
    have pP:i' < 10→x[10]? = some false:=fun xK=>by
     have uX:10 < x.length:=by rw [hx]; simp
     cases L:x[10]
     ·rw [yH uX,L]
     ·have:=K.o10 (by rw [yH uX,L]) i' xK
      rw [xy] at this; cases this
    match i',Z with
    | 0,Z =>
     obtain rfl:=ya Z
     clear K D
     rw [if_pos (by rfl)];unfold Oper.wp;go_simp
     exact ⟨upd f 0 (.slice (some (J V.heap.size 0)) 0 0),by simp [upd],r7_0 (U qq) xy (fun _=>trivial)⟩
    | 1,Z =>
     obtain rfl:=ya Z
     have s5:f 10 = .slice (some (J g 0)) l.length cp:=K.s5 (pP (by omega))
     clear K D
     rw [if_pos (by rfl)];unfold Oper.wp;go_simp
     exact ⟨upd f 1 (.slice (some (J g 0)) l.length cp),by simp [upd,s5],bc (U qq) 1 _ rfl (by decide) (by decide) (by decide) (by decide)⟩
    | 2,Z =>
     obtain rfl:=ya Z
     clear K D
     rw [if_pos (by rfl)];unfold Oper.wp;go_simp
     exact ⟨upd f 2 (H i),by simp [upd],bc (U qq) 2 _ rfl (by decide) (by decide) (by decide) (by decide)⟩
    | 3,Z =>
     obtain rfl:=ya Z
     have g1:C7 (.slice (some (J g 0)) l.length cp) g l.length cp i 1 (f 1):=K.c 1 (ye D 1 rfl)
     have g2:C7 (.slice (some (J g 0)) l.length cp) g l.length cp i 2 (f 2):=K.c 2 (ye D 2 rfl)
     simp only [C7] at g1 g2
     clear K D
     rw [if_pos (by rfl)];unfold Oper.wp;go_simp
     exact ⟨upd f 3 (.slice (some (J g 0)) i cp),by simp [upd,g1,g2],bc (U qq) 3 _ rfl (by decide) (by decide) (by decide) (by decide)⟩
    | 4,Z =>
     obtain rfl:=ya Z
     have g3:C7 (.slice (some (J g 0)) l.length cp) g l.length cp i 3 (f 3):=K.c 3 (ye D 3 rfl)
     have k0:x[0]? = some true:=D ⟨0,.data⟩ (by simp) rfl
     have kp:Hid (∀ j c,left[j]? = some c→V.rangeAt g (0 + j * 6) c.vs):=fun j c R=>zb (U HC7 j c R) K.bel hgz
     simp only [C7] at g3
     clear K D
     rw [if_pos (by rfl)]
     refine wp_append_own V (.tmp 57) (.tmp 60) 29 rfl ho.heap.size 66 i0 _ 6 56 Tryz.underlying29 uE uA uC uM rfl (by decide) (f 0) 0 [] rfl ((U qq).m0 k0 xy) (J g 0) i cp ((left.take i).flatMap Od.vs) g3 (by rw [zH Od.len,List.length_take]; congr 1; omega) (by simpa using cJ (W:=V) (g:=g) (off:=0) (l:=left) (U kp) 0 i) (bd _) (by unfold maxLen; omega) (by omega) (U qq).bel.size ?_
     intro v' w' xL ub _
     refine ⟨upd f 4 v',rfl,r7_4 (U qq) k0 xy (fun _=>trivial) ?_ ub⟩
     have xD:(left.take i).length = 0 + i:=by rw [List.length_take]; omega
     show w'.ownsRow _ _ _ _ (left.take i).length _
     rw [xD]; simpa using xL
    | 5,Z =>
     obtain rfl:=ya Z
     have s5:f 10 = .slice (some (J g 0)) l.length cp:=K.s5 (pP (by omega))
     clear K D
     rw [if_pos (by rfl)];unfold Oper.wp;go_simp
     exact ⟨upd f 5 (.slice (some (J g 0)) l.length cp),by simp [upd,s5],bc (U qq) 5 _ rfl (by decide) (by decide) (by decide) (by decide)⟩
    | 6,Z =>
     obtain rfl:=ya Z
     clear K D
     rw [if_pos (by rfl)];unfold Oper.wp;go_simp
     exact ⟨upd f 6 (H i),by simp [upd],bc (U qq) 6 _ rfl (by decide) (by decide) (by decide) (by decide)⟩
    | 7,Z =>
     obtain rfl:=ya Z
     have g6:C7 (.slice (some (J g 0)) l.length cp) g l.length cp i 6 (f 6):=K.c 6 (ye D 6 rfl)
     simp only [C7] at g6
     have hwr:IntKind.i64.wrap ((i:Int) + 1) = (i:Int) + 1:=by rw [IntKind.wrap_i64]; omega
     clear K D
     rw [if_pos (by rfl)];unfold Oper.wp;go_simp
     exact ⟨upd f 7 (H ((i:Int) + 1)),by simp [upd,g6],bc (U qq) 7 _ rfl (by decide) (by decide) (by decide) (by decide)⟩
    | 8,Z =>
     obtain rfl:=ya Z
     have g5:C7 (.slice (some (J g 0)) l.length cp) g l.length cp i 5 (f 5):=K.c 5 (ye D 5 rfl)
     have g7:C7 (.slice (some (J g 0)) l.length cp) g l.length cp i 7 (f 7):=K.c 7 (ye D 7 rfl)
     simp only [C7] at g5 g7
     clear K D
     by_cases hcp:cp = i + 1
     ·subst hcp
      rw [if_pos (by rfl)];unfold Oper.wp;go_simp
      exact ⟨upd f 8 (.slice (some (J g 0)) (l.length - (i + 1)) 0),by simp [upd,g5,g7]; omega,bc (U qq) 8 _ ⟨_,_,rfl,fun h=>by omega⟩ (by decide) (by decide) (by decide) (by decide)⟩
     ·rw [if_pos (by rfl)];unfold Oper.wp;go_simp
      exact ⟨upd f 8 (.slice (some (J g ((i + 1) * 6))) (l.length - (i + 1)) (cp - (i + 1))),by simp [upd,g5,g7],bc (U qq) 8 _ ⟨_,_,rfl,fun h=>rfl⟩ (by decide) (by decide) (by decide) (by decide)⟩
    | 9,Z =>
     obtain rfl:=ya Z
     have g8:C7 (.slice (some (J g 0)) l.length cp) g l.length cp i 8 (f 8):=K.c 8 (ye D 8 rfl)
     have k4:x[4]? = some true:=D ⟨4,.data⟩ (by simp) rfl
     have kp:Hid (∀ j c,left[j]? = some c→V.rangeAt g (0 + j * 6) c.vs):=fun j c R=>zb (U HC7 j c R) K.bel hgz
     obtain ⟨ad8,c8,g8,had⟩:=g8
     clear K D
     have hsrc8:∀ j u,((left.drop (i + 1)).flatMap Od.vs)[j]? = some u→V.cell? (ad8.add j) = some u:=by
      intro j u hu
      by_cases xK:i + 1 < l.length
      ·rw [had xK]
       have:=cJ (W:=V) (g:=g) (off:=0) (l:=left) (U kp) (i + 1) (l.length - (i + 1)) j u (by rw [yZ (by simp [hll])]; exact hu)
       simpa using this
      ·rw [xa (by omega)] at hu; simp at hu
     rw [if_pos (by rfl)]
     refine wp_append_own V (.tmp 61) (.tmp 65) 29 rfl ho.heap.size 66 i0 _ 6 56 Tryz.underlying29 uE uA uC uM rfl (by decide) (f 4) (left.take i).length ((left.take i).flatMap Od.vs) rfl ((U qq).m4 k4 xy) ad8 (l.length - (i + 1)) c8 ((left.drop (i + 1)).flatMap Od.vs) g8 (by rw [zH Od.len,List.length_drop,hll]) hsrc8 (bd _) (by unfold maxLen; rw [List.length_take]; omega) (by rw [List.length_take]; omega) (U qq).bel.size ?_
     intro v' w' xL ub _
     refine ⟨upd f 9 v',rfl,r7_9 (U qq) k4 xy (fun _=>trivial) ?_ ub⟩
     show w'.ownsRow _ _ _ _ (left.take i ++ left.drop (i + 1)).length _
     rw [yP,List.length_drop,hll,List.flatMap_append]
     exact xL
    | 10,Z =>
     obtain rfl:=ya Z
     have hA:∀ j,j < 10→x[j]? = some true:=fun j R=>D ⟨j,.phase⟩ (by
      match j,R with
      | 0,_=>simp
      | 1,_=>simp
      | 2,_=>simp
      | 3,_=>simp
      | 4,_=>simp
      | 5,_=>simp
      | 6,_=>simp
      | 7,_=>simp
      | 8,_=>simp
      | 9,_=>simp
      | n + 10,h=>omega) rfl
     clear K D
     rw [if_pos (by rfl)];unfold Oper.wp;go_simp
     exact ⟨upd f 10 (f 9),by simp [upd],r7_10 (U qq) hA xy (fun _=>trivial)⟩
    | n + 11,Z=>simp at Z
  ·have b0:(xH - q == 0) = false:=by simpa using hz
   have HH:=Y (hit_less (l:=l) (i:=i) (o:=⟨uK,uT,xw,xH,uS,qc⟩) hz)
   clear hz
   go_wp2_with fail
   refine U HT _ _ _ _ _ _ _ _ _ _ _ _ _ _ _ _ _ _ _ _ _ _ _ _ _ _ _ _ _ _ _ _ _ _ _ _ _ _ _ _ _ _ _ _ _ _ _ _ _ _ _ _ _ _ _ _ _ _ _ _ _ _ _ _ _ _ _ (by rw [← U HH]; exact bO (U HZO) (by omega)) (U HZB) (U HZT) (U HZ1) (U HZ2) (U HZE)
 ·rintro x xm V i' o' ⟨f,rfl,xk,hD⟩ xo hx Z xy D
  have n15':i' < 15→¬ x[15]? = some true:=fun xK vx=>by
   have uk:∀ j,j < 15→x[j]? = some true:=fun j R=>xo 15 _ rfl vx ⟨j,.phase⟩ (by
    rcases (by omega:j = 0 ∨ j = 1 ∨ j = 2 ∨ j = 3 ∨ j = 4 ∨ j = 5 ∨ j = 6 ∨ j = 7 ∨ j = 8 ∨ j = 9 ∨ j = 10 ∨ j = 11 ∨ j = 12 ∨ j = 13 ∨ j = 14) with rfl | rfl | rfl | rfl | rfl | rfl | rfl | rfl | rfl | rfl | rfl | rfl | rfl | rfl | rfl <;> simp) rfl
   rw [uk i' xK] at xy; cases xy
  clear xo
  have xv:=Y xk
  have HD:=Y hD
  have hS1:=U HS1
  have vr:b < yb.heap.size:=by omega
  have z0:V.cell? (J w.heap.size 0) = some (H uy):=zb (U jG).1 xk (by omega) 0 _ rfl
  have o0:V.cell? (J b (off + i * 6)) = some (H uK):=zb (U pT i _ (U HIO)) xk vr 0 _ rfl
  have o2:V.cell? (J b (off + i * 6 + 2)) = some (H xw):=zb (U pT i _ (U HIO)) xk vr 2 _ rfl
  clear xu hS1
  match i',Z with
  | 0,Z =>
   obtain rfl:=ya Z
   clear D hD xk
   rw [if_pos (by rfl)];unfold Oper.wp;go_simp
   exact ⟨upd f 0 (I w.heap.size 0),by simp [upd],zd (U xv) (U HD) (by decide) rfl⟩
  | 1,Z =>
   obtain rfl:=ya Z
   have g0:f 0 = I w.heap.size 0:=hD 0 (ye D 0 rfl)
   clear D hD xk
   rw [if_pos (by rfl)];unfold Oper.wp;go_simp
   exact ⟨upd f 1 (H uy),by simp [upd,g0],zd (U xv) (U HD) (by decide) rfl⟩
  | 2,Z | 8,Z =>
   obtain rfl:=ya Z
   clear D hD xk
   rw [if_pos (by rfl)];unfold Oper.wp;go_simp
   exact ⟨upd f _ (.slice (some (J b off)) l.length A),by simp [upd],zd (U xv) (U HD) (by decide) rfl⟩
  | 3,Z | 9,Z =>
   obtain rfl:=ya Z
   clear D hD xk
   rw [if_pos (by rfl)];unfold Oper.wp;go_simp
   exact ⟨upd f _ (H i),by simp [upd],zd (U xv) (U HD) (by decide) rfl⟩
  | 4,Z =>
   obtain rfl:=ya Z
   have g2:f 2 = .slice (some (J b off)) l.length A:=hD 2 (ye D 2 rfl)
   have g3:f 3 = H i:=hD 3 (ye D 3 rfl)
   clear D hD xk
   rw [if_pos (by rfl)];unfold Oper.wp;go_simp
   exact ⟨upd f 4 (I b (off + i * 6)),by simp [upd,g2,g3],zd (U xv) (U HD) (by decide) rfl⟩
  | 5,Z =>
   obtain rfl:=ya Z
   have g4:f 4 = I b (off + i * 6):=hD 4 (ye D 4 rfl)
   clear D hD xk
   rw [if_pos (by rfl)];unfold Oper.wp;go_simp
   exact ⟨upd f 5 (I b (off + i * 6)),by simp [upd,g4],zd (U xv) (U HD) (by decide) rfl⟩
  | 6,Z =>
   obtain rfl:=ya Z
   have g5:f 5 = I b (off + i * 6):=hD 5 (ye D 5 rfl)
   clear D hD xk
   rw [if_pos (by rfl)];unfold Oper.wp;go_simp
   exact ⟨upd f 6 (H uK),by simp [upd,g5],zd (U xv) (U HD) (by decide) rfl⟩
  | 7,Z =>
   obtain rfl:=ya Z
   clear D hD xk
   rw [if_pos (by rfl)];unfold Oper.wp;go_simp
   exact ⟨upd f 7 (H q),by simp [upd],zd (U xv) (U HD) (by decide) rfl⟩
  | 10,Z =>
   obtain rfl:=ya Z
   have g8:f 8 = .slice (some (J b off)) l.length A:=hD 8 (ye D 8 rfl)
   have g9:f 9 = H i:=hD 9 (ye D 9 rfl)
   clear D hD xk
   rw [if_pos (by rfl)];unfold Oper.wp;go_simp
   exact ⟨upd f 10 (I b (off + i * 6)),by simp [upd,g8,g9],zd (U xv) (U HD) (by decide) rfl⟩
  | 11,Z =>
   obtain rfl:=ya Z
   have qC:f 10 = I b (off + i * 6):=hD 10 (ye D 10 rfl)
   clear D hD xk
   rw [if_pos (by rfl)];unfold Oper.wp;go_simp
   exact ⟨upd f 11 (I b (off + i * 6 + 2)),by simp [upd,qC],zd (U xv) (U HD) (by decide) rfl⟩
  | 12,Z =>
   obtain rfl:=ya Z
   have vF:f 11 = I b (off + i * 6 + 2):=hD 11 (ye D 11 rfl)
   clear D hD xk
   rw [if_pos (by rfl)];unfold Oper.wp;go_simp
   exact ⟨upd f 12 (H xw),by simp [upd,vF],zd (U xv) (U HD) (by decide) rfl⟩
  | 13,Z =>
   obtain rfl:=ya Z
   have g1:f 1 = H uy:=hD 1 (ye D 1 rfl)
   have g6:f 6 = H uK:=hD 6 (ye D 6 rfl)
   have g7:f 7 = H q:=hD 7 (ye D 7 rfl)
   have ua:f 12 = H xw:=hD 12 (ye D 12 rfl)
   clear D hD xk
   rw [if_pos (by rfl)];unfold Oper.wp;go_simp
   exact ⟨upd f 13 (.agg (yu 3 0 0 0 0 0 0 0 ⟨#[]⟩ uy uK q xw 0).toArray),by simp [upd,g1,g6,g7,ua],zd (U xv) (U HD) (by decide) rfl⟩
  | 14,Z =>
   obtain rfl:=ya Z
   have n15:=n15' (by omega)
   clear D hD xk
   rw [if_pos (by rfl)];unfold Oper.wp;go_simp
   have xC:=ed V (E (yu 0 0 0 0 0 0 0 0 ⟨#[]⟩ 0 0 0 0 0).toArray 41)
   exact ⟨upd f 14 (I V.heap.size 0),by simp [upd],aR (U xv) (U HD) xC (by decide) (dh_grow xC) ⟨V.heap.size,rfl,(U xv).size,by rw [ze]; omega,zu V (yu 0 0 0 0 0 0 0 0 ⟨#[]⟩ 0 0 0 0 0) _,fun h=>absurd h n15⟩⟩
  | 15,Z =>
   obtain rfl:=ya Z
   have ku:f 13 = .agg (yu 3 0 0 0 0 0 0 0 ⟨#[]⟩ uy uK q xw 0).toArray:=hD 13 (ye D 13 rfl)
   obtain ⟨c,kw,pC,kW,oZ,-⟩:=hD 14 (ye D 14 rfl)
   have HCT:=Y oZ
   obtain ⟨y0,z20,n20⟩:=zc oZ (j:=0) (by omega)
   obtain ⟨y1,z21,n21⟩:=zc oZ (j:=1) (by omega)
   obtain ⟨y2,z22,n22⟩:=zc oZ (j:=2) (by omega)
   obtain ⟨y3,z23,n23⟩:=zc oZ (j:=3) (by omega)
   obtain ⟨y4,z24,n24⟩:=zc oZ (j:=4) (by omega)
   obtain ⟨y5,z25,n25⟩:=zc oZ (j:=5) (by omega)
   obtain ⟨y6,z26,n26⟩:=zc oZ (j:=6) (by omega)
   obtain ⟨y7,z27,n27⟩:=zc oZ (j:=7) (by omega)
   obtain ⟨y8,z28,n28⟩:=zc oZ (j:=8) (by omega)
   obtain ⟨y9,z29,n29⟩:=zc oZ (j:=9) (by omega)
   obtain ⟨y10,z30,n30⟩:=zc oZ (j:=10) (by omega)
   obtain ⟨y11,z31,n31⟩:=zc oZ (j:=11) (by omega)
   obtain ⟨y12,z32,n32⟩:=zc oZ (j:=12) (by omega)
   obtain ⟨y13,z33,n33⟩:=zc oZ (j:=13) (by omega)
   have hsf:=sfl
   clear D hD xk oZ
   rw [if_pos (by rfl)];unfold Oper.wp;go_simp
   refine ⟨upd f 15 M,by simp [upd,ku,kw],rgx_last (zm c pC (yu 3 0 0 0 0 0 0 0 ⟨#[]⟩ uy uK q xw 0) 0 V (U xv)) (U HD) xy (fun j R hxj h=>dh_last j R h (fun hj14=>?_)) trivial⟩
   subst hj14
   refine ⟨c,kw,pC,by rw [bM]; exact kW,xb (U HCT) _ _ _,fun _=>yX V c 0 _ (fun j R=>U HCT j R)⟩
  | n + 16,Z=>simp at Z
end Go.Proofs.YtdliebbfcmdmaaaGreat
