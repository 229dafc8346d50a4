/-
  A taker trades with the order at a place, by the model: proved by walking the function.
-/
import Derived.Test.YtbakanofkghmiaaGreatPj38
set_option linter.unusedVariables false
set_option maxHeartbeats 6400000
set_option maxRecDepth 100000
namespace Go.Proofs.YtbakanofkghmiaaGreat
open Go.RowKit
structure R8 (v ta ea:Value) (V0 V1 V2:World) (x:List Bool) (f:Nat→Value) (W:World):Prop where
 f0:x[0]? = some true→f 0 = v
 f1:x[1]? = some true→f 1 = ta
 f2:x[2]? = some true→f 2 = ea
 f3:x[3]? = some true→f 3 = v
 f5:x[5]? = some true→f 5 = ea
 s0:x[4]? = some false→W = V0
 s1:x[4]? = some true→x[5]? = some false→W = V1
 s2:x[4]? = some true→x[5]? = some true→W = V2
def R8A (xh:(Nat→Value)→Act) (v ta ea:Value) (V0 V1 V2:World) (x:List Bool) (hR:Act) (W:World):Prop:=∃ f,hR = xh f∧R8 v ta ea V0 V1 V2 x f W
section
variable {v ta ea:Value} {V0 V1 V2:World} {x:List Bool} {f:Nat→Value} {W:World}
theorem r8_val (h:R8 v ta ea V0 V1 V2 x f W) (i:Nat) (u:Value) (hi:i < 4) (h0:i = 0→u = v) (z:i = 1→u = ta) (K:i = 2→u = ea) (h3:i = 3→u = v):R8 v ta ea V0 V1 V2 (x.set i true) (upd f i u) W:=by
 have key:∀ j (y:Value),(x[j]? = some true→f j = y)→(i = j→u = y)→(x.set i true)[j]? = some true→upd f i u j = y:=by
  intro j y hf hu hx
  by_cases e:i = j
  ·subst e; rw [zp]; exact hu rfl
  ·rw [zr _ _ (fun e'=>e e'.symm)]; rw [gq e] at hx; exact hf hx
 refine ⟨key 0 v h.f0 h0,key 1 ta h.f1 z,key 2 ea h.f2 K,key 3 v h.f3 h3,key 5 ea h.f5 (by omega),?_,?_,?_⟩ <;> rw [gq (show i ≠ 4 by omega)]
 ·exact h.s0
 ·rw [gq (show i ≠ 5 by omega)]; exact h.s1
 ·rw [gq (show i ≠ 5 by omega)]; exact h.s2
theorem r8_4 (h:R8 v ta ea V0 V1 V2 x f W) (h4:x[4]? = some false) (h5:x[5]? = some false):R8 v ta ea V0 V1 V2 (x.set 4 true) f V1:=by
 refine ⟨?_,?_,?_,?_,?_,?_,?_,?_⟩
 ·rw [gq (by omega)]; exact h.f0
 ·rw [gq (by omega)]; exact h.f1
 ·rw [gq (by omega)]; exact h.f2
 ·rw [gq (by omega)]; exact h.f3
 ·rw [gq (by omega)]; exact h.f5
 ·intro e; rw [gqs h4] at e; cases e
 ·exact fun _ _=>rfl
 ·intro _ e; rw [gq (by omega),h5] at e; cases e
theorem r8_5 (h:R8 v ta ea V0 V1 V2 x f W) (h4:x[4]? = some true) (h5:x[5]? = some false):R8 v ta ea V0 V1 V2 (x.set 5 true) (upd f 5 ea) V2:=by
 refine ⟨?_,?_,?_,?_,?_,?_,?_,?_⟩
 ·rw [gq (by omega),zr _ _ (by omega)]; exact h.f0
 ·rw [gq (by omega),zr _ _ (by omega)]; exact h.f1
 ·rw [gq (by omega),zr _ _ (by omega)]; exact h.f2
 ·rw [gq (by omega),zr _ _ (by omega)]; exact h.f3
 ·intro _; exact zp _ _ _
 ·intro e; rw [gq (by omega),h4] at e; cases e
 ·intro _ e; rw [gqs h5] at e; cases e
 ·exact fun _ _=>rfl
end
theorem dj {B b:Nat} {v:Value} {l:List Od} (hb:b < B):∀ (vs:List Value) (o:Nat) (W:World),ORow W B v l→ORow (W.setCells b o vs) B v l
 | [],_,_,h=>h
 | u :: us,o,W,h=>by rw [World.setCells]; exact dj hb us (o + 1) _ (br h hb o u)
theorem ed {W:World} {b o p k:Nat} {cs vs:List Value} (h:W.rangeAt b o cs) (hb:p ≠ b):(W.setCells p k vs).rangeAt b o cs:=fun j u L =>
 (World.cell?_setCells_out p vs k W (J b (o + j)) (fun e=>absurd e.symm hb)).trans (h j u L)
theorem hit_same {l:List Od} {i:Nat} {o:Od} {q:Int} (h:o.left - q = 0):(l.set i { o with left:=o.left - q }).take i ++ (l.set i { o with left:=o.left - q }).drop (i + 1) = zR l i o q:=by
 have:o.left = q:=by omega
 rw [zR,if_pos this,List.take_set_of_le tg,List.drop_set_of_lt (by omega)]
theorem hit_less {l:List Od} {i:Nat} {o:Od} {q:Int} (h:o.left - q ≠ 0):l.set i { o with left:=o.left - q } = zR l i o q:=by
 have:o.left ≠ q:=by omega
 rw [zR,if_neg this]
def DH (S b off i n F:Nat) (ul uy q xr:Int) (base:Nat) (p:Prop) (W:World):Nat→Value→Prop
 | 0,v=>v = I S 0
 | 1,v=>v = H ul
 | 2,v=>v = .slice (some (J b off)) n F
 | 3,v=>v = H i
 | 4,v=>v = I b (off + i * 6)
 | 5,v=>v = I b (off + i * 6)
 | 6,v=>v = H uy
 | 7,v=>v = H q
 | 8,v=>v = .slice (some (J b off)) n F
 | 9,v=>v = H i
 | 10,v=>v = I b (off + i * 6)
 | 11,v=>v = I b (off + i * 6 + 2)
 | 12,v=>v = H xr
 | 13,v=>v = .agg (ys 3 0 0 0 0 0 0 0 ⟨#[]⟩ ul uy q xr 0).toArray
 | 14,v=>∃ c,v = I c 0∧base ≤ c∧c < W.heap.size∧W.there c 0 14∧(p→W.rangeAt c 0 (ys 3 0 0 0 0 0 0 0 ⟨#[]⟩ ul uy q xr 0))
 | _,_=>True
theorem dh_grow {S b off i n F:Nat} {ul uy q xr:Int} {base:Nat} {p:Prop} {V V':World} (hb:yl V V'):∀ j v,DH S b off i n F ul uy q xr base p V j v→DH S b off i n F ul uy q xr base p V' j v:=by
 intro j v h
 match j with
 | 0 | 1 | 2 | 3 | 4 | 5 | 6 | 7 | 8 | 9 | 10 | 11 | 12 | 13=>exact h
 | 14=>obtain ⟨c,z,K,h3,h4,h5⟩:=h; exact ⟨c,z,K,yG h3 hb.size,zf h4 hb h3,fun hp=>zb (h5 hp) hb h3⟩
 | j + 15=>trivial
theorem dh_last {S b off i n F:Nat} {ul uy q xr:Int} {base:Nat} {V V':World} {v:Value}:∀ j,j ≠ 15→DH S b off i n F ul uy q xr base False V j v→(j = 14→DH S b off i n F ul uy q xr base True V' 14 v)→DH S b off i n F ul uy q xr base True V' j v:=by
 intro j L h qY
 match j with
 | 0 | 1 | 2 | 3 | 4 | 5 | 6 | 7 | 8 | 9 | 10 | 11 | 12 | 13=>exact h
 | 14=>exact qY rfl
 | j + 15=>trivial
theorem hit_mid {V w1:World} {v1:Value} {l:List Od} (xA:l ≠ []) (hl:l.length ≤ 1000) (h6:w1.ownsRow V.heap.size 49 6 v1 (0 + l.length) ([] ++ l.flatMap Od.vs)) (h7:(V.alloc (E #[] 49)).grownBy w1 (Value.slice (some (J V.heap.size 0)) 0 0).ownBlock) :
  ∃ g cp,v1 = .slice (some (J g 0)) l.length cp∧l.length ≤ cp∧V.heap.size ≤ g∧g < w1.heap.size∧ORow w1 V.heap.size v1 l∧yl V w1:=by
 have Y:ORow w1 V.heap.size v1 l:=by
  show w1.ownsRow _ _ _ _ l.length _
  simpa using h6
 obtain ⟨g,cp,e,z,K,h3⟩:=dt Y xA
 exact ⟨g,cp,e,z,K,h3,Y,(eD _ _).grown h7 (by rw [ze]; omega) (fun k hk=>by simp [Value.ownBlock] at hk; omega)⟩
theorem row_here {W:World} {B g n cp i:Nat} {l:List Od} {o:Od} (h:ORow W B (.slice (some (J g 0)) n cp) l) (hl:l.length ≤ 1000) (hi:l[i]? = some o):W.rangeAt g (i * 6) o.vs∧∀ j,j < 6→W.frozen? (J g (i * 6 + j)) = false:=by
 obtain ⟨a',c',e,_,hc⟩:=zT h (by omega)
 obtain ⟨b',vH,e2,_,hc⟩:=hc (by rintro rfl; simp at hi)
 rw [e2] at e
 simp only [Value.slice.injEq,Option.some.injEq,Addr.mk.injEq,and_true] at e
 obtain ⟨⟨rfl,rfl⟩,-⟩:=e
 refine ⟨by simpa using hc i o hi,fun j L=>?_⟩
 rcases h.2 with ⟨z,_⟩ | ⟨g',po,xp,z,_,h3,h4,_,h5,_⟩
 ·cases z
 ·simp only [Value.slice.injEq,Option.some.injEq,Addr.mk.injEq,and_true] at z
  obtain ⟨rfl,-⟩:=z
  have hil:=(yD.1 hi).1
  have:=(cz h3 tg (i * 6 + j) (by rw [h5]; omega)).2
  rwa [Nat.zero_add] at this
theorem range_left {W:World} {S g k:Nat} {a0 a1 a2 a3 a4 a5 x y:Value} (h:W.rangeAt S 0 [a0,a1,a2,a3,a4,a5]) (hg:g ≠ S):((W.setCell (J g k) x).setCell (J S 3) y).rangeAt S 0 [a0,a1,a2,y,a4,a5]:=by
 have Y:∀ j,j ≠ 3→((W.setCell (J g k) x).setCell (J S 3) y).cell? (J S j) = W.cell? (J S j):=fun j L=>(yI _ _ _ _ (zI (fun e=>L e.symm))).trans (yI _ _ _ _ (fun e=>hg (congrArg Addr.block e)))
 intro j u L
 rw [Nat.zero_add]
 match j,L with
 | 0,L=>cases L; exact (Y 0 (by omega)).trans (h 0 _ rfl)
 | 1,L=>cases L; exact (Y 1 (by omega)).trans (h 1 _ rfl)
 | 2,L=>cases L; exact (Y 2 (by omega)).trans (h 2 _ rfl)
 | 3,L=>cases L; exact yJ _ _ _ ((yI _ _ _ _ (fun e=>hg (congrArg Addr.block e))).trans (h 3 _ rfl))
 | 4,L=>cases L; exact (Y 4 (by omega)).trans (h 4 _ rfl)
 | 5,L=>cases L; exact (Y 5 (by omega)).trans (h 5 _ rfl)
 | j + 6,L=>simp at L
theorem range_far {W:World} {b o p k:Nat} {cs:List Value} {x:Value} (h:W.rangeAt b o cs) (hb:p ≠ b):(W.setCell (J p k) x).rangeAt b o cs:=fun j u L =>
 (yI _ _ _ _ (fun e=>hb (congrArg Addr.block e))).trans (h j u L)
theorem l04Hit_any (v:Value) (l:List Od) (t o:Od) (i:Nat) (w:World) (hr:RdR Od.vs 6 w v l) (hn:l.length ≤ 1000) (kT:l[i]? = some o) (ht0:0 ≤ t.left) (ht1:t.left ≤ 1000000) (ho0:0 ≤ o.left) (vV:o.left ≤ 1000000) :
  Calls Tryz.prog 136 #[v,.agg (yt t.id t.side t.ticks t.left t.life t.tag).toArray,H i] w fun e w'=>∃ v',e = .returned (.tuple #[v',.agg (Od.vs { t with left:=t.left - min t.left o.left }).toArray,.agg (Ev.vs (trE t.id o.id (min t.left o.left) o.ticks)).toArray])∧ORow w' w.heap.size v' (zR l i o (min t.left o.left))∧yl w w':=by
 obtain ⟨i0,uv,uq,uw,uM⟩:=info_parts Tryz.infoOrder
 have hil:=(yD.1 kT).1
 have xA:l ≠ []:=by rintro rfl; simp at kT
 have HNE:=Q xA
 obtain ⟨a,F,rfl,xD,hc⟩:=hr
 obtain ⟨b,off,rfl,hb,xk⟩:=hc xA
 have HCL:=Q xk
 have HIO:=Q kT
 obtain ⟨ul,uh,xP,xI,ug,uI⟩:=t
 obtain ⟨uy,uK,xr,xH,uJ,vX⟩:=o
 simp only at ht0 ht1 ho0 vV ⊢
 generalize hq:min xI xH = q
 have hqa:0 ≤ q:=by omega
 have hqb:q ≤ xI:=by omega
 have hqc:q ≤ xH:=by omega
 have HQ:=Q hq
 clear xk hc kT xA hq xD
 have xz:=ze w (E (yt ul uh xP xI ug uI).toArray 49)
 have xY:((w.alloc (E (yt ul uh xP xI ug uI).toArray 49)).alloc (E (yt 0 0 0 0 0 ⟨#[]⟩).toArray 49)).heap.size = w.heap.size + 1 + 1:=by rw [ze,xz]
 have kp:(((w.alloc (E (yt ul uh xP xI ug uI).toArray 49)).alloc (E (yt 0 0 0 0 0 ⟨#[]⟩).toArray 49)).alloc (E (ys 0 0 0 0 0 0 0 0 ⟨#[]⟩ 0 0 0 0 0).toArray 46)).heap.size = w.heap.size + 1 + 1 + 1:=by rw [ze,xY]
 have r1:=zg w (yt ul uh xP xI ug uI) 49
 have t1:=zH w (yt ul uh xP xI ug uI) 49
 have t2:=zH (w.alloc (E (yt ul uh xP xI ug uI).toArray 49)) (yt 0 0 0 0 0 ⟨#[]⟩) 49
 have t3:=zH ((w.alloc (E (yt ul uh xP xI ug uI).toArray 49)).alloc (E (yt 0 0 0 0 0 ⟨#[]⟩).toArray 49)) (ys 0 0 0 0 0 0 0 0 ⟨#[]⟩ 0 0 0 0 0) 46
 rw [xz] at t2
 rw [xY] at t3
 have b1:=eD w (E (yt ul uh xP xI ug uI).toArray 49)
 have b2:Below (w.heap.size + 1) (w.alloc (E (yt ul uh xP xI ug uI).toArray 49)) ((w.alloc (E (yt ul uh xP xI ug uI).toArray 49)).alloc (E (yt 0 0 0 0 0 ⟨#[]⟩).toArray 49)):=(Below.refl _ _).alloc (by omega) _
 have b3:Below (w.heap.size + 1 + 1) ((w.alloc (E (yt ul uh xP xI ug uI).toArray 49)).alloc (E (yt 0 0 0 0 0 ⟨#[]⟩).toArray 49)) (((w.alloc (E (yt ul uh xP xI ug uI).toArray 49)).alloc (E (yt 0 0 0 0 0 ⟨#[]⟩).toArray 49)).alloc (E (ys 0 0 0 0 0 0 0 0 ⟨#[]⟩ 0 0 0 0 0).toArray 46)):=(Below.refl _ _).alloc (by omega) _
 have b23:=b2.trans (b3.mono (by omega))
 have HX:Hid (World.rangeAt _ w.heap.size 0 _∧World.there _ w.heap.size 0 6∧World.there _ (w.heap.size + 1) 0 6∧World.there _ (w.heap.size + 1 + 1) 0 14):=⟨zb r1 b23 (by omega),zf t1 b23 (by omega),zf t2 b3 (by omega),t3⟩
 have xM:=Q (b1.trans (b23.mono (by omega)))
 have kh:=Q kp
 clear xz xY kp r1 t1 t2 t3 b1 b2 b3 b23
 go_enter Tryz.func136,Tryz.ntmps136
 refine eH fun h2 xu=>?_
 go_wp2_with fail
 refine M xu _ _ ?_
 clear xu
 generalize (((w.alloc (E (yt ul uh xP xI ug uI).toArray 49)).alloc (E (yt 0 0 0 0 0 ⟨#[]⟩).toArray 49)).alloc (E (ys 0 0 0 0 0 0 0 0 ⟨#[]⟩ 0 0 0 0 0).toArray 46)) = qt at HX xM kh ⊢
 have HX:Hid (qt.rangeAt w.heap.size 0 (yt ul uh xP xI ug uI)∧qt.there w.heap.size 0 6∧qt.there (w.heap.size + 1) 0 6∧qt.there (w.heap.size + 1 + 1) 0 14):=M HX
 have t3:qt.cell? (J w.heap.size 3) = some (H xI):=(M HX).1 3 _ rfl
 have HCX:Hid (∀ j c,l[j]? = some c→qt.rangeAt b (off + j * 6) c.vs):=fun j c L=>zb (M HCL j c L) (M xM) hb
 have o3:qt.cell? (J b (off + i * 6 + 3)) = some (H xH):=M HCX i _ (M HIO) 3 _ rfl
 have hil':(i:Int) < l.length:=by omega
 have hii:(0:Int) ≤ i:=by omega
 refine eH fun h2 xu=>?_
 go_wp2_with fail
 go_quiet (fail)
 refine M xu _ _ ?_
 clear xu
 have hif:(if xH < xI then xH else xI) = q:=by have:=M HQ; split <;> omega
 simp only [hif]
 have jg:Hid ((qt.drewN nq).rangeAt w.heap.size 0 (yt ul uh xP xI ug uI)∧(qt.drewN nq).there w.heap.size 0 6∧(qt.drewN nq).there (w.heap.size + 1) 0 6∧(qt.drewN nq).there (w.heap.size + 1 + 1) 0 14):=M HX
 have xT:Hid (yl w (qt.drewN nq)):=cH (M xM) _
 have HS1:Hid ((qt.drewN nq).heap.size = w.heap.size + 1 + 1 + 1):=M kh
 have HC1:Hid (∀ j c,l[j]? = some c→(qt.drewN nq).rangeAt b (off + j * 6) c.vs):=M HCX
 clear t3 o3 hif HX xM kh HCX
 generalize qt.drewN nq = ho at jg xT HS1 HC1 ⊢
 refine eH fun h2 xu=>?_
 refine zi (RG ho (fun f=>{ tmps:=#[.slice (some (J b off)) l.length F,.agg (yt ul uh xP xI ug uI).toArray,H i,Z,I w.heap.size 0,Z,.slice none 0 0,I (w.heap.size + 1) 0,I (w.heap.size + 1 + 1) 0,H q,f 14,Z,I w.heap.size 3,H xI,.slice (some (J b off)) l.length F,H i,I b (off + i * 6),I b (off + i * 6 + 3),H xH,H q,f 0,f 1,f 2,f 3,f 4,f 5,f 6,f 7,f 8,f 9,f 10,f 11,f 12,f 13,Z,Z,Z,Z,Z,Z,Z,Z,Z,Z,Z,Z,Z,Z,Z,Z,Z,Z,Z,Z,Z,Z,Z,Z,Z,Z,Z,Z,Z,Z,Z,Z,Z,Z,Z,Z],defers:=[] }) 15 (DH w.heap.size b off i l.length F ul uy q xr ho.heap.size)) (by kernel_rfl) ?_ ?_ ?_
 ·exact ⟨fun _=>Z,rfl,⟨rfl,rfl,rfl,Nat.le_refl _,fun _ _=>rfl⟩,fun j L=>by rw [yF] at L; split at L <;> simp at L⟩
 ·rintro x hR V ⟨f,rfl,xe,U⟩ hx xK
  have xm:=aK xK hx (acyc _ (by kernel_rfl))
  have k15:x[15]? = some true:=xm 15 (by simp)
  obtain ⟨c,e14,px,jq,-,hcr⟩:=U 14 (xm 14 (by simp))
  have pM:=Q (hcr k15)
  refine M xu _ _ ?_
  clear xu
  have HS:=M HS1
  have hsv:=xe.size
  have HXV:Hid (V.rangeAt w.heap.size 0 (yt ul uh xP xI ug uI)∧V.there w.heap.size 0 6∧V.there (w.heap.size + 1) 0 6∧V.there (w.heap.size + 1 + 1) 0 14):=⟨zb (M jg).1 xe (by omega),zf (M jg).2.1 xe (by omega),zf (M jg).2.2.1 xe (by omega),zf (M jg).2.2.2 xe (by omega)⟩
  have xo:=Q (eG (M xT) xe)
  have qd:b < ho.heap.size:=by omega
  have jP:Hid (∀ j c,l[j]? = some c→V.rangeAt b (off + j * 6) c.vs):=fun j c L=>zb (M HC1 j c L) xe qd
  have hcS:w.heap.size + 1 + 1 < c:=by omega
  simp only [e14]
  generalize f 0 = u20,f 1 = u21,f 2 = u22,f 3 = u23,f 4 = u24,f 5 = u25,f 6 = u26,f 7 = u27,f 8 = u28,f 9 = u29,f 10 = u30,f 11 = u31,f 12 = u32,f 13 = u33
  clear U xm k15 e14 hcr xK hx xe px jg xT HC1 HS1 HS
  have vB:=Q (World.ownsRow_made (base:=V.heap.size) (e:=49) (size:=6) V #[] 0 tg (by decide) rfl)
  have uQ:Hid (∀ j u,(l.flatMap Od.vs)[j]? = some u→(V.alloc (E #[] 49)).cell? (((J b off):Addr).add j) = some u):=fun j u hu=>by
   have h:=cZ (W:=V.alloc (E #[] 49)) (g:=b) (off:=off) (l:=l) (fun i c hi=>zb (M jP i c hi) ((Below.refl V.heap.size V).alloc tg _) (by omega)) 0 l.length j u (by simpa using hu)
   simpa using h
  refine eH fun h2 xu=>?_
  go_wp2_with (at_builtin; go_must (refine wpList_append_own _ rfl _ _ 26 rfl V.heap.size 49 i0 _ 6 56 Tryz.underlying26 uv uq uw uM rfl (by decide) (.slice (some (J V.heap.size 0)) 0 0) 0 [] rfl (M vB) (J b off) l.length F (l.flatMap Od.vs) rfl (by rw [zM Od.len]) (M uQ) (bh l) (by unfold maxLen; omega) (by omega) (by simp) ?_); intro v1 w1 uP oo _; obtain ⟨g,cp,rfl,vR,hVg,hgw,ho1',xR⟩:=hit_mid (M HNE) hn uP oo; have uZ:=Q ho1'; have xT:=Q xR; clear uP oo ho1' xR)
  refine M xu _ _ ?_
  clear xu uQ vB
  have jg:Hid (w1.rangeAt w.heap.size 0 (yt ul uh xP xI ug uI)∧w1.there w.heap.size 0 6∧w1.there (w.heap.size + 1) 0 6∧w1.there (w.heap.size + 1 + 1) 0 14):=⟨zb (M HXV).1 (M xT) (by omega),zf (M HXV).2.1 (M xT) (by omega),zf (M HXV).2.2.1 (M xT) (by omega),zf (M HXV).2.2.2 (M xT) (by omega)⟩
  have pd:=Q (zb (M pM) (M xT) jq)
  have xJ:=Q ((M xo).trans ((M xT).mono (M xo).size))
  have uD:=row_here (M uZ) hn (M HIO)
  have c3:w1.cell? (J g (i * 6 + 3)) = some (H xH):=uD.1 3 _ rfl
  have f3:w1.frozen? (J g (i * 6 + 3)) = false:=uD.2 3 (by omega)
  have t3:w1.cell? (J w.heap.size 3) = some (H xI):=(M jg).1 3 _ rfl
  have s3:w1.frozen? (J w.heap.size 3) = false:=by have:=((M jg).2.1 3 (by omega)).2; rwa [Nat.zero_add] at this
  have hgS:g ≠ w.heap.size:=by omega
  have hSg:w.heap.size ≠ g:=by omega
  have qy:-9223372036854775808 ≤ xH - q:=by omega
  have hq2:xH - q ≤ 9223372036854775807:=by omega
  have hq3:-9223372036854775808 ≤ xI - q:=by omega
  have hq4:xI - q ≤ 9223372036854775807:=by omega
  clear uD
  refine eH fun h2 xu=>?_
  go_wp2_with fail
  refine M xu _ _ ?_
  clear xu
  refine eH fun h2 xu=>?_
  go_wp2_with fail
  refine M xu _ _ ?_
  clear xu
  have HZO:Hid (ORow ((w1.setCell (J g (i * 6 + 3)) (H (xH - q))).setCell (J w.heap.size 3) (H (xI - q))) V.heap.size (.slice (some (J g 0)) l.length cp) (l.set i ⟨uy,uK,xr,xH - q,uJ,vX⟩)):=zw (oRow_left (M uZ) rfl (M HIO) (xH - q)).1 (by simp [Value.ownBlock]; omega) _ _
  have HZT:=Q (range_left (k:=i * 6 + 3) (x:=H (xH - q)) (y:=H (xI - q)) (M jg).1 hgS)
  have HZE:=Q (range_far (p:=w.heap.size) (k:=3) (x:=H (xI - q)) (range_far (p:=g) (k:=i * 6 + 3) (x:=H (xH - q)) (M pd) (by omega)) (by omega))
  have HZ1:=Q (bj (c:=w.heap.size) (j:=3) (u:=H (xI - q)) (bj (c:=g) (j:=i * 6 + 3) (u:=H (xH - q)) (M jg).2.2.1))
  have HZ2:=Q (bj (c:=w.heap.size) (j:=3) (u:=H (xI - q)) (bj (c:=g) (j:=i * 6 + 3) (u:=H (xH - q)) (M jg).2.2.2))
  have HZB:=Q (((M xJ).setCell (p:=(J g (i * 6 + 3))) (by simp; omega) (H (xH - q))).setCell (p:=(J w.heap.size 3)) tg (H (xI - q)))
  have hgz:g < ((w1.setCell (J g (i * 6 + 3)) (H (xH - q))).setCell (J w.heap.size 3) (H (xI - q))).heap.size:=by simp [World.setCell]; exact hgw
  have z3:((w1.setCell (J g (i * 6 + 3)) (H (xH - q))).setCell (J w.heap.size 3) (H (xI - q))).cell? (J g (i * 6 + 3)) = some (H (xH - q)):=(yI _ _ _ _ (fun e=>hSg (congrArg Addr.block e))).trans (yJ _ _ _ c3)
  generalize ((w1.setCell (J g (i * 6 + 3)) (H (xH - q))).setCell (J w.heap.size 3) (H (xI - q))) = yj at HZO HZT HZE HZ1 HZ2 HZB hgz z3 ⊢
  clear c3 f3 t3 s3 jg pd xJ uZ xT HXV pM xo jP hgw
  refine eH fun h2 xu=>?_
  have HT:Hid (∀ (u0 u1 u2 u3 u5 u6 u9 u12 u13 u14 u15 u16 u17 u18 u19 u20 u21 u22 u23 u24 u25 u26 u27 u28 u29 u30 u31 u32 u33 u34 u35 u36 u37 u38 u39 u40 u41 u42 u43 u44 u45 u46 u47 u48 u49 u50 u51 u52 u53 u54 u55 u56 u57 u58 u59 u60 u61 u62 u63 u64 u65 u66 u67 u68 u69 v11:Value) (Z':World),ORow Z' (w.heap.size + 1 + 1 + 1) v11 (zR l i ⟨uy,uK,xr,xH,uJ,vX⟩ q)→yl w Z'→Z'.rangeAt w.heap.size 0 (yt ul uh xP (xI - q) ug uI)→Z'.there (w.heap.size + 1) 0 6→Z'.there (w.heap.size + 1 + 1) 0 14→Z'.rangeAt c 0 (ys 3 0 0 0 0 0 0 0 ⟨#[]⟩ ul uy q xr 0)→h2 { tmps:=#[u0,u1,u2,u3,I w.heap.size 0,u5,u6,I (w.heap.size + 1) 0,I (w.heap.size + 1 + 1) 0,u9,I c 0,v11,u12,u13,u14,u15,u16,u17,u18,u19,u20,u21,u22,u23,u24,u25,u26,u27,u28,u29,u30,u31,u32,u33,u34,u35,u36,u37,u38,u39,u40,u41,u42,u43,u44,u45,u46,u47,u48,u49,u50,u51,u52,u53,u54,u55,u56,u57,u58,u59,u60,u61,u62,u63,u64,u65,u66,u67,u68,u69],defers:=[] } Z'):=by
   intro u0 u1 u2 u3 u5 u6 u9 u12 u13 u14 u15 u16 u17 u18 u19 u20 u21 u22 u23 u24 u25 u26 u27 u28 u29 u30 u31 u32 u33 u34 u35 u36 u37 u38 u39 u40 u41 u42 u43 u44 u45 u46 u47 u48 u49 u50 u51 u52 u53 u54 u55 u56 u57 u58 u59 u60 u61 u62 u63 u64 u65 u66 u67 u68 u69 v11 Z' hO hB hT z K hE
   refine M xu _ _ ?_
   have HO:=Q hO
   have HB:=Q hB
   have pX:=Q hT
   have HE:=Q hE
   have HH1:=Q z
   have HH2:=Q K
   clear hO hB hT hE z K xu
   obtain ⟨V0,oO⟩:∃ V:World,V = { Z' with drawn:=Z'.drawn + 1 }:=⟨_,rfl⟩
   have HO:Hid (ORow V0 (w.heap.size + 1 + 1 + 1) v11 (zR l i ⟨uy,uK,xr,xH,uJ,vX⟩ q)):=by rw [oO]; exact M HO
   have HB:Hid (yl w V0):=by rw [oO]; exact (M HB).trans ⟨rfl,rfl,rfl,Nat.le_refl _,fun _ _=>rfl⟩
   have pX:Hid (V0.rangeAt w.heap.size 0 (yt ul uh xP (xI - q) ug uI)):=by rw [oO]; exact M pX
   have HE:Hid (V0.rangeAt c 0 (ys 3 0 0 0 0 0 0 0 ⟨#[]⟩ ul uy q xr 0)):=by rw [oO]; exact M HE
   have HH1:Hid (V0.there (w.heap.size + 1) 0 6):=by rw [oO]; exact M HH1
   have HH2:Hid (V0.there (w.heap.size + 1 + 1) 0 14):=by rw [oO]; exact M HH2
   obtain ⟨V1,vQ⟩:∃ V:World,V = V0.setCells (w.heap.size + 1) 0 (yt ul uh xP (xI - q) ug uI):=⟨_,rfl⟩
   obtain ⟨V2,kF⟩:∃ V:World,V = V1.setCells (w.heap.size + 1 + 1) 0 (ys 3 0 0 0 0 0 0 0 ⟨#[]⟩ ul uy q xr 0):=⟨_,rfl⟩
   have uZ:Hid (ORow V1 (w.heap.size + 1 + 1 + 1) v11 (zR l i ⟨uy,uK,xr,xH,uJ,vX⟩ q)):=by rw [vQ]; exact dj (by omega) _ _ _ (M HO)
   have xT:Hid (yl w V1):=by rw [vQ]; exact zu _ (by omega) _ _ _ (M HB)
   have jn:Hid (V1.rangeAt (w.heap.size + 1) 0 (yt ul uh xP (xI - q) ug uI)):=by rw [vQ]; exact yU V0 _ 0 _ (fun j L=>M HH1 j L)
   have pd:Hid (V1.rangeAt c 0 (ys 3 0 0 0 0 0 0 0 ⟨#[]⟩ ul uy q xr 0)):=by rw [vQ]; exact ed (M HE) (by omega)
   have HH3:Hid (V1.there (w.heap.size + 1 + 1) 0 14):=by rw [vQ]; exact yY (M HH2) _ _ _
   have HOE:Hid (ORow V2 w.heap.size v11 (zR l i ⟨uy,uK,xr,xH,uJ,vX⟩ q)):=by rw [kF]; exact bV (dj (by omega) _ _ _ (M uZ)) (by omega)
   have vY:Hid (yl w V2):=by rw [kF]; exact zu _ (by omega) _ _ _ (M xT)
   have jx:Hid (V2.rangeAt (w.heap.size + 1 + 1) 0 (ys 3 0 0 0 0 0 0 0 ⟨#[]⟩ ul uy q xr 0)):=by rw [kF]; exact yU V1 _ 0 _ (fun j L=>M HH3 j L)
   have jn:Hid (V2.rangeAt (w.heap.size + 1) 0 (yt ul uh xP (xI - q) ug uI)):=by rw [kF]; exact ed (M jn) (by omega)
   have HV0:=Q oO
   have HV1:=Q vQ
   have HV2:=Q kF
   clear oO vQ kF HO HB uZ xT
   go_wp2_with fail
   refine zi (R8A (fun f=>{ tmps:=#[u0,u1,u2,u3,I w.heap.size 0,u5,f 3,I (w.heap.size + 1) 0,I (w.heap.size + 1 + 1) 0,u9,I c 0,v11,u12,u13,u14,u15,u16,u17,u18,u19,u20,u21,u22,u23,u24,u25,u26,u27,u28,u29,u30,u31,u32,u33,u34,u35,u36,u37,u38,u39,u40,u41,u42,u43,u44,u45,u46,u47,u48,u49,u50,u51,u52,u53,u54,u55,u56,u57,u58,u59,u60,u61,u62,u63,u64,u65,u66,f 0,f 1,f 2],defers:=[] }) v11 (.agg (yt ul uh xP (xI - q) ug uI).toArray) (.agg (ys 3 0 0 0 0 0 0 0 ⟨#[]⟩ ul uy q xr 0).toArray) V0 V1 V2) (by kernel_rfl) ?_ ?_ ?_
   ·exact ⟨fun j=>if j = 3 then u6 else if j = 0 then u67 else if j = 1 then u68 else u69,rfl,⟨by simp,by simp,by simp,by simp,by simp,fun _=>(M HV0).symm,by simp,by simp⟩⟩
   ·rintro x hR V' ⟨f,rfl,A⟩ hx xK
    have xm:=zL xK hx (by kernel_rfl)
    have e3:=A.f3 (xm 3 (by simp))
    have eW:=A.s2 (xm 4 (by simp)) (xm 5 (by simp))
    subst eW
    simp only [e3]
    clear A xm e3 xK hx
    obtain ⟨d0,d1,d2,d3,d4,d5⟩:=yz (M jn)
    obtain ⟨e0,e1,e2,e3,e4,e5,e6,e7,e8,e9,jz,pq,e12,oe⟩:=yC (M jx)
    go_wp2_with fail
    try simp only [Exit.inBlock,Exit.then]
    refine bodyPost_ret (by simp [results,Tryz.results136,go_sem,d0,d1,d2,d3,d4,d5,e0,e1,e2,e3,e4,e5,e6,e7,e8,e9,jz,pq,e12,oe]; try rfl) rfl ?_
    exact ⟨v11,rfl,M HOE,M vY⟩
   ·rintro x hR V' i' o' ⟨f,rfl,A⟩ xk hx Y xq D
    have n5:i' < 5→x[5]? = some false:=fun xL=>by
     rcases bK hx (show 5 < 6 by omega) with h | h
     ·exact h
     ·have:=xk 5 _ rfl h ⟨i',.phase⟩ (by rcases (by omega:i' = 0 ∨ i' = 1 ∨ i' = 2 ∨ i' = 3 ∨ i' = 4) with rfl | rfl | rfl | rfl | rfl <;> simp) rfl
      rw [xq] at this; cases this
    have n4:i' = 0 ∨ i' = 1 ∨ i' = 3→x[4]? = some false:=fun xL=>by
     rcases bK hx (show 4 < 6 by omega) with h | h
     ·exact h
     ·have:=xk 4 _ rfl h ⟨i',.phase⟩ (by rcases xL with rfl | rfl | rfl <;> simp) rfl
      rw [xq] at this; cases this
    have xv:=Q A
    clear xk
    match i',Y with
    | 0,Y =>
     obtain rfl:=hD Y
     clear D A
     rw [if_pos (by rfl)];unfold Oper.wp;go_simp
     exact ⟨upd f 0 v11,by simp [upd],r8_val (M xv) 0 _ (by omega) (fun _=>rfl) (by omega) (by omega) (by omega)⟩
    | 1,Y =>
     obtain rfl:=hD Y
     have eV:=A.s0 (n4 (by omega))
     subst eV
     obtain ⟨c0,c1,c2,c3,c4,c5⟩:=yz (M pX)
     clear D A
     rw [if_pos (by rfl)];unfold Oper.wp;go_simp
     exact ⟨upd f 1 (.agg (yt ul uh xP (xI - q) ug uI).toArray),by simp [upd],r8_val (M xv) 1 _ (by omega) (by omega) (fun _=>rfl) (by omega) (by omega)⟩
    | 2,Y =>
     obtain rfl:=hD Y
     have qV:Hid (V'.rangeAt c 0 (ys 3 0 0 0 0 0 0 0 ⟨#[]⟩ ul uy q xr 0)):=by
      rcases bK hx (show 4 < 6 by omega) with h | h
      ·rw [A.s0 h]; exact M HE
      ·rw [A.s1 h (n5 (by omega))]; exact M pd
     obtain ⟨c0,c1,c2,c3,c4,c5,c6,c7,c8,c9,c10,c11,c12,c13⟩:=yC (M qV)
     clear D A
     rw [if_pos (by rfl)];unfold Oper.wp;go_simp
     exact ⟨upd f 2 (.agg (ys 3 0 0 0 0 0 0 0 ⟨#[]⟩ ul uy q xr 0).toArray),by simp [upd],r8_val (M xv) 2 _ (by omega) (by omega) (by omega) (fun _=>rfl) (by omega)⟩
    | 3,Y =>
     obtain rfl:=hD Y
     have g0:=A.f0 (yc D 0 rfl)
     clear D A
     rw [if_pos (by rfl)];unfold Oper.wp;go_simp
     exact ⟨upd f 3 v11,by simp [upd,g0],r8_val (M xv) 3 _ (by omega) (by omega) (by omega) (by omega) (fun _=>rfl)⟩
    | 4,Y =>
     obtain rfl:=hD Y
     have g1:=A.f1 (yc D 1 rfl)
     have eV:=A.s0 xq
     subst eV
     have xG:=M HH1
     obtain ⟨y0,z0,q0⟩:=zd xG (j:=0) (by omega)
     obtain ⟨y1,z1,q1⟩:=zd xG (j:=1) (by omega)
     obtain ⟨y2,z2,q2⟩:=zd xG (j:=2) (by omega)
     obtain ⟨y3,z3,q3⟩:=zd xG (j:=3) (by omega)
     obtain ⟨y4,z4,q4⟩:=zd xG (j:=4) (by omega)
     obtain ⟨y5,z5,q5⟩:=zd xG (j:=5) (by omega)
     have n5':=n5 (by omega)
     clear D A xG
     rw [if_pos (by rfl)];unfold Oper.wp;go_simp
     have HR4:=r8_4 (M xv) xq n5'
     conv at HR4=>arg 9; rw [M HV1]
     exact ⟨f,by simp [g1],HR4⟩
    | 5,Y =>
     obtain rfl:=hD Y
     have g2:=A.f2 (yc D 2 rfl)
     have k4:x[4]? = some true:=D ⟨4,.chain⟩ (by simp) rfl
     have eV:=A.s1 k4 xq
     subst eV
     have xG:=M HH3
     have pV:=Q (r8_5 (M xv) k4 xq)
     clear xv A
     obtain ⟨y0,z0,q0⟩:=zd xG (j:=0) (by omega)
     obtain ⟨y1,z1,q1⟩:=zd xG (j:=1) (by omega)
     obtain ⟨y2,z2,q2⟩:=zd xG (j:=2) (by omega)
     obtain ⟨y3,z3,q3⟩:=zd xG (j:=3) (by omega)
     obtain ⟨y4,z4,q4⟩:=zd xG (j:=4) (by omega)
     obtain ⟨y5,z5,q5⟩:=zd xG (j:=5) (by omega)
     obtain ⟨y6,z6,q6⟩:=zd xG (j:=6) (by omega)
     obtain ⟨y7,z7,q7⟩:=zd xG (j:=7) (by omega)
     obtain ⟨y8,z8,q8⟩:=zd xG (j:=8) (by omega)
     obtain ⟨y9,z9,q9⟩:=zd xG (j:=9) (by omega)
     obtain ⟨y10,z10,q10⟩:=zd xG (j:=10) (by omega)
     obtain ⟨y11,z11,q11⟩:=zd xG (j:=11) (by omega)
     obtain ⟨y12,z12,q12⟩:=zd xG (j:=12) (by omega)
     obtain ⟨y13,z13,q13⟩:=zd xG (j:=13) (by omega)
     have hsf:=sfl
     clear D xG
     rw [if_pos (by rfl)];unfold Oper.wp;go_simp
     have vf:=M pV
     conv at vf=>arg 9; rw [M HV2]
     exact ⟨upd f 5 (.agg (ys 3 0 0 0 0 0 0 0 ⟨#[]⟩ ul uy q xr 0).toArray),by simp [upd,g2],vf⟩
    | i' + 6,Y=>simp at Y
  clear xu
  by_cases hz:xH - q = 0
  ·have b0:(xH - q == 0) = true:=by simpa using hz
   have HH:=Q (hit_same (l:=l) (i:=i) (o:=⟨uy,uK,xr,xH,uJ,vX⟩) hz)
   clear hz
   generalize hleft:l.set i ⟨uy,uK,xr,xH - q,uJ,vX⟩ = left at HZO HH
   have hll:left.length = l.length:=by rw [← hleft,List.length_set]
   clear hleft
   have HC7:Hid (∀ j c,left[j]? = some c→yj.rangeAt g (0 + j * 6) c.vs):=fun j c L=>by
    have:=(row_here (M HZO) (by omega) L).1
    rwa [Nat.zero_add]
   have hll1:l.length ≤ 1000:=hn
   have hicp:i ≤ cp:=by omega
   have hi1:i + 1 ≤ l.length:=by omega
   have hi1':(i:Int) + 1 ≤ l.length:=by omega
   have hlcp:(l.length:Int) ≤ cp:=by omega
   have h0i:(0:Int) ≤ (i:Int) + 1:=by omega
   go_wp2_with fail
   clear z3
   refine dl (R7A (.slice (some (J g 0)) l.length cp) yj (C7 (.slice (some (J g 0)) l.length cp) g l.length cp i) (left.take i) (left.take i ++ left.drop (i + 1)) (fun f=>{ tmps:=#[.slice (some (J b off)) l.length F,.agg (yt ul uh xP xI ug uI).toArray,H i,Z,I w.heap.size 0,Z,.slice none 0 0,I (w.heap.size + 1) 0,I (w.heap.size + 1 + 1) 0,H q,I c 0,f 10,I w.heap.size 3,H xI,.slice (some (J b off)) l.length F,H i,I b (off + i * 6),I b (off + i * 6 + 3),H xH,H q,u20,u21,u22,u23,u24,u25,u26,u27,u28,u29,u30,u31,u32,u33,.slice (some (J V.heap.size 0)) 0 0,.slice (some (J b off)) l.length F,.slice (some (J g 0)) l.length cp,.slice (some (J g 0)) l.length cp,H i,I g (i * 6),I g (i * 6 + 3),H xH,H q,H (xH - q),I g (i * 6),I g (i * 6 + 3),I w.heap.size 3,H xI,H q,H (xI - q),I w.heap.size 3,.slice (some (J g 0)) l.length cp,H i,I g (i * 6),I g (i * 6 + 3),H (xH - q),.bool true,f 0,f 1,f 2,f 3,f 4,f 5,f 6,f 7,f 8,f 9,Z,Z,Z],defers:=[] })) (by kernel_rfl) ?_ ?_ ?_
   ·exact ⟨fun j=>if j = 10 then .slice (some (J g 0)) l.length cp else Z,rfl,⟨⟨rfl,rfl,rfl,Nat.le_refl _,fun _ _=>rfl⟩,fun j L=>by rw [yF] at L; split at L <;> simp at L,fun _=>rfl,by simp,by simp,by simp,by simp,by simp,by simp,by simp⟩⟩
   ·rintro x hR V' ⟨f,rfl,A⟩ hx xK
    have xm:=aK xK hx (acyc _ (by kernel_rfl))
    have k9:x[9]? = some true:=xm 9 (by simp)
    have k10:x[10]? = some true:=xm 10 (by simp)
    have HO9:=Q (A.m9 k9)
    have jz:f 10 = f 9:=A.m10 k10
    have xo:=Q A.bel
    simp only [jz]
    clear A xm k9 k10 jz xK hx
    have ke:=(M HZB).size
    refine M HT _ _ _ _ _ _ _ _ _ _ _ _ _ _ _ _ _ _ _ _ _ _ _ _ _ _ _ _ _ _ _ _ _ _ _ _ _ _ _ _ _ _ _ _ _ _ _ _ _ _ _ _ _ _ _ _ _ _ _ _ _ _ _ _ _ _ _ (by rw [← M HH]; exact bV (M HO9) (by omega)) ((M HZB).trans ((M xo).mono ke)) (zb (M HZT) (M xo) (by omega)) (zf (M HZ1) (M xo) (by omega)) (zf (M HZ2) (M xo) (by omega)) (zb (M HZE) (M xo) (by omega))
   ·rintro x hR V i' o' ⟨f,rfl,A⟩ hx Y xq D
    have qi:=Q A
    have n10:i' < 10→x[10]? = some false:=fun xL=>by
     have uL:10 < x.length:=by rw [hx]; simp
     cases hb:x[10]
     ·rw [yE uL,hb]
     ·have:=A.o10 (by rw [yE uL,hb]) i' xL
      rw [xq] at this; cases this
    match i',Y with
    | 0,Y =>
     obtain rfl:=hD Y
     clear A D
     rw [if_pos (by rfl)];unfold Oper.wp;go_simp
     exact ⟨upd f 0 (.slice (some (J V.heap.size 0)) 0 0),by simp [upd],r7_0 (M qi) xq (fun _=>trivial)⟩
    | 1,Y =>
     obtain rfl:=hD Y
     have s5:f 10 = .slice (some (J g 0)) l.length cp:=A.s5 (n10 (by omega))
     clear A D
     rw [if_pos (by rfl)];unfold Oper.wp;go_simp
     exact ⟨upd f 1 (.slice (some (J g 0)) l.length cp),by simp [upd,s5],aY (M qi) 1 _ rfl (by decide) (by decide) (by decide) (by decide)⟩
    | 2,Y =>
     obtain rfl:=hD Y
     clear A D
     rw [if_pos (by rfl)];unfold Oper.wp;go_simp
     exact ⟨upd f 2 (H i),by simp [upd],aY (M qi) 2 _ rfl (by decide) (by decide) (by decide) (by decide)⟩
    | 3,Y =>
     obtain rfl:=hD Y
     have g1:C7 (.slice (some (J g 0)) l.length cp) g l.length cp i 1 (f 1):=A.c 1 (yc D 1 rfl)
     have g2:C7 (.slice (some (J g 0)) l.length cp) g l.length cp i 2 (f 2):=A.c 2 (yc D 2 rfl)
     simp only [C7] at g1 g2
     clear A D
     rw [if_pos (by rfl)];unfold Oper.wp;go_simp
     exact ⟨upd f 3 (.slice (some (J g 0)) i cp),by simp [upd,g1,g2],aY (M qi) 3 _ rfl (by decide) (by decide) (by decide) (by decide)⟩
    | 4,Y =>
     obtain rfl:=hD Y
     have g3:C7 (.slice (some (J g 0)) l.length cp) g l.length cp i 3 (f 3):=A.c 3 (yc D 3 rfl)
     have k0:x[0]? = some true:=D ⟨0,.data⟩ (by simp) rfl
     have jP:Hid (∀ j c,left[j]? = some c→V.rangeAt g (0 + j * 6) c.vs):=fun j c L=>zb (M HC7 j c L) A.bel hgz
     simp only [C7] at g3
     clear A D
     rw [if_pos (by rfl)]
     refine wp_append_own V (.tmp 57) (.tmp 60) 26 rfl yj.heap.size 49 i0 _ 6 56 Tryz.underlying26 uv uq uw uM rfl (by decide) (f 0) 0 [] rfl ((M qi).m0 k0 xq) (J g 0) i cp ((left.take i).flatMap Od.vs) g3 (by rw [zM Od.len,List.length_take]; congr 1; omega) (by simpa using cZ (W:=V) (g:=g) (off:=0) (l:=left) (M jP) 0 i) (bh _) (by unfold maxLen; omega) (by omega) (M qi).bel.size ?_
     intro v' w' xN ut _
     refine ⟨upd f 4 v',rfl,r7_4 (M qi) k0 xq (fun _=>trivial) ?_ ut⟩
     have xD:(left.take i).length = 0 + i:=by rw [List.length_take]; omega
     show w'.ownsRow _ _ _ _ (left.take i).length _
     rw [xD]; simpa using xN
    | 5,Y =>
     obtain rfl:=hD Y
     have s5:f 10 = .slice (some (J g 0)) l.length cp:=A.s5 (n10 (by omega))
     clear A D
     rw [if_pos (by rfl)];unfold Oper.wp;go_simp
     exact ⟨upd f 5 (.slice (some (J g 0)) l.length cp),by simp [upd,s5],aY (M qi) 5 _ rfl (by decide) (by decide) (by decide) (by decide)⟩
    | 6,Y =>
     obtain rfl:=hD Y
     clear A D
     rw [if_pos (by rfl)];unfold Oper.wp;go_simp
     exact ⟨upd f 6 (H i),by simp [upd],aY (M qi) 6 _ rfl (by decide) (by decide) (by decide) (by decide)⟩
    | 7,Y =>
     obtain rfl:=hD Y
     have g6:C7 (.slice (some (J g 0)) l.length cp) g l.length cp i 6 (f 6):=A.c 6 (yc D 6 rfl)
     simp only [C7] at g6
     have hwr:IntKind.i64.wrap ((i:Int) + 1) = (i:Int) + 1:=by rw [IntKind.wrap_i64]; omega
     clear A D
     rw [if_pos (by rfl)];unfold Oper.wp;go_simp
     exact ⟨upd f 7 (H ((i:Int) + 1)),by simp [upd,g6],aY (M qi) 7 _ rfl (by decide) (by decide) (by decide) (by decide)⟩
    | 8,Y =>
     obtain rfl:=hD Y
     have g5:C7 (.slice (some (J g 0)) l.length cp) g l.length cp i 5 (f 5):=A.c 5 (yc D 5 rfl)
     have g7:C7 (.slice (some (J g 0)) l.length cp) g l.length cp i 7 (f 7):=A.c 7 (yc D 7 rfl)
     simp only [C7] at g5 g7
     clear A D
     by_cases hcp:cp = i + 1
     ·subst hcp
      rw [if_pos (by rfl)];unfold Oper.wp;go_simp
      exact ⟨upd f 8 (.slice (some (J g 0)) (l.length - (i + 1)) 0),by simp [upd,g5,g7]; omega,aY (M qi) 8 _ ⟨_,_,rfl,fun h=>by omega⟩ (by decide) (by decide) (by decide) (by decide)⟩
     ·rw [if_pos (by rfl)];unfold Oper.wp;go_simp
      exact ⟨upd f 8 (.slice (some (J g ((i + 1) * 6))) (l.length - (i + 1)) (cp - (i + 1))),by simp [upd,g5,g7],aY (M qi) 8 _ ⟨_,_,rfl,fun h=>rfl⟩ (by decide) (by decide) (by decide) (by decide)⟩
    | 9,Y =>
     obtain rfl:=hD Y
     have g8:C7 (.slice (some (J g 0)) l.length cp) g l.length cp i 8 (f 8):=A.c 8 (yc D 8 rfl)
     have k4:x[4]? = some true:=D ⟨4,.data⟩ (by simp) rfl
     have jP:Hid (∀ j c,left[j]? = some c→V.rangeAt g (0 + j * 6) c.vs):=fun j c L=>zb (M HC7 j c L) A.bel hgz
     obtain ⟨ad8,c8,g8,had⟩:=g8
     clear A D
     have hsrc8:∀ j u,((left.drop (i + 1)).flatMap Od.vs)[j]? = some u→V.cell? (ad8.add j) = some u:=by
      intro j u hu
      by_cases xL:i + 1 < l.length
      ·rw [had xL]
       have:=cZ (W:=V) (g:=g) (off:=0) (l:=left) (M jP) (i + 1) (l.length - (i + 1)) j u (by rw [yW (by simp [hll])]; exact hu)
       simpa using this
      ·rw [yX (by omega)] at hu; simp at hu
     rw [if_pos (by rfl)]
     refine wp_append_own V (.tmp 61) (.tmp 65) 26 rfl yj.heap.size 49 i0 _ 6 56 Tryz.underlying26 uv uq uw uM rfl (by decide) (f 4) (left.take i).length ((left.take i).flatMap Od.vs) rfl ((M qi).m4 k4 xq) ad8 (l.length - (i + 1)) c8 ((left.drop (i + 1)).flatMap Od.vs) g8 (by rw [zM Od.len,List.length_drop,hll]) hsrc8 (bh _) (by unfold maxLen; rw [List.length_take]; omega) (by rw [List.length_take]; omega) (M qi).bel.size ?_
     intro v' w' xN ut _
     refine ⟨upd f 9 v',rfl,r7_9 (M qi) k4 xq (fun _=>trivial) ?_ ut⟩
     show w'.ownsRow _ _ _ _ (left.take i ++ left.drop (i + 1)).length _
     rw [yM,List.length_drop,hll,List.flatMap_append]
     exact xN
    | 10,Y =>
     obtain rfl:=hD Y
     have hA:∀ j,j < 10→x[j]? = some true:=fun j L=>D ⟨j,.phase⟩ (by
      match j,L with
      | 0,_=>simp
      | 1,_=>simp
      | 2,_=>simp
      | 3,_=>simp
      | 4,_=>simp
      | 5,_=>simp
      | 6,_=>simp
      | 7,_=>simp
      | 8,_=>simp
      | 9,_=>simp
      | n + 10,h=>omega) rfl
     clear A D
     rw [if_pos (by rfl)];unfold Oper.wp;go_simp
     exact ⟨upd f 10 (f 9),by simp [upd],r7_10 (M qi) hA xq (fun _=>trivial)⟩
    | n + 11,Y=>simp at Y
  ·have b0:(xH - q == 0) = false:=by simpa using hz
   have HH:=Q (hit_less (l:=l) (i:=i) (o:=⟨uy,uK,xr,xH,uJ,vX⟩) hz)
   clear hz
   go_wp2_with fail
   refine M HT _ _ _ _ _ _ _ _ _ _ _ _ _ _ _ _ _ _ _ _ _ _ _ _ _ _ _ _ _ _ _ _ _ _ _ _ _ _ _ _ _ _ _ _ _ _ _ _ _ _ _ _ _ _ _ _ _ _ _ _ _ _ _ _ _ _ _ (by rw [← M HH]; exact bV (M HZO) (by omega)) (M HZB) (M HZT) (M HZ1) (M HZ2) (M HZE)
 ·rintro x hR V i' o' ⟨f,rfl,xe,U⟩ xk hx Y xq D
  have n15':i' < 15→¬ x[15]? = some true:=fun xL vl=>by
   have ub:∀ j,j < 15→x[j]? = some true:=fun j L=>xk 15 _ rfl vl ⟨j,.phase⟩ (by
    rcases (by omega:j = 0 ∨ j = 1 ∨ j = 2 ∨ j = 3 ∨ j = 4 ∨ j = 5 ∨ j = 6 ∨ j = 7 ∨ j = 8 ∨ j = 9 ∨ j = 10 ∨ j = 11 ∨ j = 12 ∨ j = 13 ∨ j = 14) with rfl | rfl | rfl | rfl | rfl | rfl | rfl | rfl | rfl | rfl | rfl | rfl | rfl | rfl | rfl <;> simp) rfl
   rw [ub i' xL] at xq; cases xq
  clear xk
  have xo:=Q xe
  have HD:=Q U
  have hS1:=M HS1
  have qd:b < ho.heap.size:=by omega
  have z0:V.cell? (J w.heap.size 0) = some (H ul):=zb (M jg).1 xe (by omega) 0 _ rfl
  have o0:V.cell? (J b (off + i * 6)) = some (H uy):=zb (M HC1 i _ (M HIO)) xe qd 0 _ rfl
  have o2:V.cell? (J b (off + i * 6 + 2)) = some (H xr):=zb (M HC1 i _ (M HIO)) xe qd 2 _ rfl
  clear xu hS1
  match i',Y with
  | 0,Y =>
   obtain rfl:=hD Y
   clear D U xe
   rw [if_pos (by rfl)];unfold Oper.wp;go_simp
   exact ⟨upd f 0 (I w.heap.size 0),by simp [upd],zc (M xo) (M HD) (by decide) rfl⟩
  | 1,Y =>
   obtain rfl:=hD Y
   have g0:f 0 = I w.heap.size 0:=U 0 (yc D 0 rfl)
   clear D U xe
   rw [if_pos (by rfl)];unfold Oper.wp;go_simp
   exact ⟨upd f 1 (H ul),by simp [upd,g0],zc (M xo) (M HD) (by decide) rfl⟩
  | 2,Y | 8,Y =>
   obtain rfl:=hD Y
   clear D U xe
   rw [if_pos (by rfl)];unfold Oper.wp;go_simp
   exact ⟨upd f _ (.slice (some (J b off)) l.length F),by simp [upd],zc (M xo) (M HD) (by decide) rfl⟩
  | 3,Y | 9,Y =>
   obtain rfl:=hD Y
   clear D U xe
   rw [if_pos (by rfl)];unfold Oper.wp;go_simp
   exact ⟨upd f _ (H i),by simp [upd],zc (M xo) (M HD) (by decide) rfl⟩
  | 4,Y =>
   obtain rfl:=hD Y
   have g2:f 2 = .slice (some (J b off)) l.length F:=U 2 (yc D 2 rfl)
   have g3:f 3 = H i:=U 3 (yc D 3 rfl)
   clear D U xe
   rw [if_pos (by rfl)];unfold Oper.wp;go_simp
   exact ⟨upd f 4 (I b (off + i * 6)),by simp [upd,g2,g3],zc (M xo) (M HD) (by decide) rfl⟩
  | 5,Y =>
   obtain rfl:=hD Y
   have g4:f 4 = I b (off + i * 6):=U 4 (yc D 4 rfl)
   clear D U xe
   rw [if_pos (by rfl)];unfold Oper.wp;go_simp
   exact ⟨upd f 5 (I b (off + i * 6)),by simp [upd,g4],zc (M xo) (M HD) (by decide) rfl⟩
  | 6,Y =>
   obtain rfl:=hD Y
   have g5:f 5 = I b (off + i * 6):=U 5 (yc D 5 rfl)
   clear D U xe
   rw [if_pos (by rfl)];unfold Oper.wp;go_simp
   exact ⟨upd f 6 (H uy),by simp [upd,g5],zc (M xo) (M HD) (by decide) rfl⟩
  | 7,Y =>
   obtain rfl:=hD Y
   clear D U xe
   rw [if_pos (by rfl)];unfold Oper.wp;go_simp
   exact ⟨upd f 7 (H q),by simp [upd],zc (M xo) (M HD) (by decide) rfl⟩
  | 10,Y =>
   obtain rfl:=hD Y
   have g8:f 8 = .slice (some (J b off)) l.length F:=U 8 (yc D 8 rfl)
   have g9:f 9 = H i:=U 9 (yc D 9 rfl)
   clear D U xe
   rw [if_pos (by rfl)];unfold Oper.wp;go_simp
   exact ⟨upd f 10 (I b (off + i * 6)),by simp [upd,g8,g9],zc (M xo) (M HD) (by decide) rfl⟩
  | 11,Y =>
   obtain rfl:=hD Y
   have vP:f 10 = I b (off + i * 6):=U 10 (yc D 10 rfl)
   clear D U xe
   rw [if_pos (by rfl)];unfold Oper.wp;go_simp
   exact ⟨upd f 11 (I b (off + i * 6 + 2)),by simp [upd,vP],zc (M xo) (M HD) (by decide) rfl⟩
  | 12,Y =>
   obtain rfl:=hD Y
   have vr:f 11 = I b (off + i * 6 + 2):=U 11 (yc D 11 rfl)
   clear D U xe
   rw [if_pos (by rfl)];unfold Oper.wp;go_simp
   exact ⟨upd f 12 (H xr),by simp [upd,vr],zc (M xo) (M HD) (by decide) rfl⟩
  | 13,Y =>
   obtain rfl:=hD Y
   have g1:f 1 = H ul:=U 1 (yc D 1 rfl)
   have g6:f 6 = H uy:=U 6 (yc D 6 rfl)
   have g7:f 7 = H q:=U 7 (yc D 7 rfl)
   have xX:f 12 = H xr:=U 12 (yc D 12 rfl)
   clear D U xe
   rw [if_pos (by rfl)];unfold Oper.wp;go_simp
   exact ⟨upd f 13 (.agg (ys 3 0 0 0 0 0 0 0 ⟨#[]⟩ ul uy q xr 0).toArray),by simp [upd,g1,g6,g7,xX],zc (M xo) (M HD) (by decide) rfl⟩
  | 14,Y =>
   obtain rfl:=hD Y
   have n15:=n15' (by omega)
   clear D U xe
   rw [if_pos (by rfl)];unfold Oper.wp;go_simp
   have xy:=eD V (E (ys 0 0 0 0 0 0 0 0 ⟨#[]⟩ 0 0 0 0 0).toArray 46)
   exact ⟨upd f 14 (I V.heap.size 0),by simp [upd],aP (M xo) (M HD) xy (by decide) (dh_grow xy) ⟨V.heap.size,rfl,(M xo).size,by rw [ze]; omega,zH V (ys 0 0 0 0 0 0 0 0 ⟨#[]⟩ 0 0 0 0 0) _,fun h=>absurd h n15⟩⟩
  | 15,Y =>
   obtain rfl:=hD Y
   have kE:f 13 = .agg (ys 3 0 0 0 0 0 0 0 ⟨#[]⟩ ul uy q xr 0).toArray:=U 13 (yc D 13 rfl)
   obtain ⟨c,jU,px,jq,ol,-⟩:=U 14 (yc D 14 rfl)
   have HCT:=Q ol
   obtain ⟨y0,z20,n20⟩:=zd ol (j:=0) (by omega)
   obtain ⟨y1,z21,n21⟩:=zd ol (j:=1) (by omega)
   obtain ⟨y2,z22,n22⟩:=zd ol (j:=2) (by omega)
   obtain ⟨y3,z23,n23⟩:=zd ol (j:=3) (by omega)
   obtain ⟨y4,z24,n24⟩:=zd ol (j:=4) (by omega)
   obtain ⟨y5,z25,n25⟩:=zd ol (j:=5) (by omega)
   obtain ⟨y6,z26,n26⟩:=zd ol (j:=6) (by omega)
   obtain ⟨y7,z27,n27⟩:=zd ol (j:=7) (by omega)
   obtain ⟨y8,z28,n28⟩:=zd ol (j:=8) (by omega)
   obtain ⟨y9,z29,n29⟩:=zd ol (j:=9) (by omega)
   obtain ⟨y10,z30,n30⟩:=zd ol (j:=10) (by omega)
   obtain ⟨y11,z31,n31⟩:=zd ol (j:=11) (by omega)
   obtain ⟨y12,z32,n32⟩:=zd ol (j:=12) (by omega)
   obtain ⟨y13,z33,n33⟩:=zd ol (j:=13) (by omega)
   have hsf:=sfl
   clear D U xe ol
   rw [if_pos (by rfl)];unfold Oper.wp;go_simp
   refine ⟨upd f 15 Z,by simp [upd,kE,jU],rgx_last (zu c px (ys 3 0 0 0 0 0 0 0 ⟨#[]⟩ ul uy q xr 0) 0 V (M xo)) (M HD) xq (fun j L hxj h=>dh_last j L h (fun hj14=>?_)) trivial⟩
   subst hj14
   refine ⟨c,jU,px,by rw [cy]; exact jq,yY (M HCT) _ _ _,fun _=>yU V c 0 _ (fun j L=>M HCT j L)⟩
  | n + 16,Y=>simp at Y
end Go.Proofs.YtbakanofkghmiaaGreat
