/-
  A taker trades with the order at a place, by the model: proved by walking the function.
-/
import Derived.Test.YtbakanofkghmiaaGreatTj37
set_option linter.unusedVariables false
set_option maxHeartbeats 6400000
set_option maxRecDepth 100000
namespace Go.Proofs.YtbakanofkghmiaaGreat
open Go.RowKit
structure R8 (v ta ea:Value) (V0 V1 V2:World) (x:List Bool) (f:Nat→Value) (W:World):Prop where
 f0:x[0]? = some true→f 0 = v
 f1:x[1]? = some true→f 1 = ta
 f2:x[2]? = some true→f 2 = ea
 f3:x[3]? = some true→f 3 = v
 f5:x[5]? = some true→f 5 = ea
 s0:x[4]? = some false→W = V0
 s1:x[4]? = some true→x[5]? = some false→W = V1
 s2:x[4]? = some true→x[5]? = some true→W = V2
def R8A (hb:(Nat→Value)→Act) (v ta ea:Value) (V0 V1 V2:World) (x:List Bool) (hR:Act) (W:World):Prop:=∃ f,hR = hb f∧R8 v ta ea V0 V1 V2 x f W
section
variable {v ta ea:Value} {V0 V1 V2:World} {x:List Bool} {f:Nat→Value} {W:World}
theorem r8_val (h:R8 v ta ea V0 V1 V2 x f W) (i:Nat) (u:Value) (hi:i < 4) (h0:i = 0→u = v) (Q:i = 1→u = ta) (N:i = 2→u = ea) (h3:i = 3→u = v):R8 v ta ea V0 V1 V2 (x.set i true) (upd f i u) W:=by
 have key:∀ j (y:Value),(x[j]? = some true→f j = y)→(i = j→u = y)→(x.set i true)[j]? = some true→upd f i u j = y:=by
  intro j y hf hu hx
  by_cases e:i = j
  ·subst e; rw [zn]; exact hu rfl
  ·rw [zo _ _ (fun e'=>e e'.symm)]; rw [gq e] at hx; exact hf hx
 refine ⟨key 0 v h.f0 h0,key 1 ta h.f1 Q,key 2 ea h.f2 N,key 3 v h.f3 h3,key 5 ea h.f5 (by omega),?_,?_,?_⟩ <;> rw [gq (show i ≠ 4 by omega)]
 ·exact h.s0
 ·rw [gq (show i ≠ 5 by omega)]; exact h.s1
 ·rw [gq (show i ≠ 5 by omega)]; exact h.s2
theorem r8_4 (h:R8 v ta ea V0 V1 V2 x f W) (h4:x[4]? = some false) (h5:x[5]? = some false):R8 v ta ea V0 V1 V2 (x.set 4 true) f V1:=by
 refine ⟨?_,?_,?_,?_,?_,?_,?_,?_⟩
 ·rw [gq (by omega)]; exact h.f0
 ·rw [gq (by omega)]; exact h.f1
 ·rw [gq (by omega)]; exact h.f2
 ·rw [gq (by omega)]; exact h.f3
 ·rw [gq (by omega)]; exact h.f5
 ·intro e; rw [gqs h4] at e; cases e
 ·exact fun _ _=>rfl
 ·intro _ e; rw [gq (by omega),h5] at e; cases e
theorem r8_5 (h:R8 v ta ea V0 V1 V2 x f W) (h4:x[4]? = some true) (h5:x[5]? = some false):R8 v ta ea V0 V1 V2 (x.set 5 true) (upd f 5 ea) V2:=by
 refine ⟨?_,?_,?_,?_,?_,?_,?_,?_⟩
 ·rw [gq (by omega),zo _ _ (by omega)]; exact h.f0
 ·rw [gq (by omega),zo _ _ (by omega)]; exact h.f1
 ·rw [gq (by omega),zo _ _ (by omega)]; exact h.f2
 ·rw [gq (by omega),zo _ _ (by omega)]; exact h.f3
 ·intro _; exact zn _ _ _
 ·intro e; rw [gq (by omega),h4] at e; cases e
 ·intro _ e; rw [gqs h5] at e; cases e
 ·exact fun _ _=>rfl
end
theorem bU {B b:Nat} {v:Value} {l:List Od} (F:b < B):∀ (vs:List Value) (o:Nat) (W:World),ORow W B v l→ORow (W.setCells b o vs) B v l
 | [],_,_,h=>h
 | u :: us,o,W,h=>by rw [World.setCells]; exact bU F us (o + 1) _ (aJ h F o u)
theorem cX {W:World} {b o p k:Nat} {cs vs:List Value} (h:W.rangeAt b o cs) (F:p ≠ b):(W.setCells p k vs).rangeAt b o cs:=fun j u R =>
 (World.cell?_setCells_out p vs k W (J b (o + j)) (fun e=>absurd e.symm F)).trans (h j u R)
theorem hit_same {l:List Od} {i:Nat} {o:Od} {q:Int} (h:o.left - q = 0):(l.set i { o with left:=o.left - q }).take i ++ (l.set i { o with left:=o.left - q }).drop (i + 1) = pO l i o q:=by
 have:o.left = q:=by omega
 rw [pO,if_pos this,List.take_set_of_le qt,List.drop_set_of_lt (by omega)]
theorem hit_less {l:List Od} {i:Nat} {o:Od} {q:Int} (h:o.left - q ≠ 0):l.set i { o with left:=o.left - q } = pO l i o q:=by
 have:o.left ≠ q:=by omega
 rw [pO,if_neg this]
def DH (S b off i n E:Nat) (uw uH q xv:Int) (base:Nat) (p:Prop) (W:World):Nat→Value→Prop
 | 0,v=>v = I S 0
 | 1,v=>v = H uw
 | 2,v=>v = .slice (some (J b off)) n E
 | 3,v=>v = H i
 | 4,v=>v = I b (off + i * 6)
 | 5,v=>v = I b (off + i * 6)
 | 6,v=>v = H uH
 | 7,v=>v = H q
 | 8,v=>v = .slice (some (J b off)) n E
 | 9,v=>v = H i
 | 10,v=>v = I b (off + i * 6)
 | 11,v=>v = I b (off + i * 6 + 2)
 | 12,v=>v = H xv
 | 13,v=>v = .agg (yt 3 0 0 0 0 0 0 0 ⟨#[]⟩ uw uH q xv 0).toArray
 | 14,v=>∃ c,v = I c 0∧base ≤ c∧c < W.heap.size∧W.there c 0 14∧(p→W.rangeAt c 0 (yt 3 0 0 0 0 0 0 0 ⟨#[]⟩ uw uH q xv 0))
 | _,_=>True
theorem dh_grow {S b off i n E:Nat} {uw uH q xv:Int} {base:Nat} {p:Prop} {V V':World} (F:ym V V'):∀ j v,DH S b off i n E uw uH q xv base p V j v→DH S b off i n E uw uH q xv base p V' j v:=by
 intro j v h
 match j with
 | 0 | 1 | 2 | 3 | 4 | 5 | 6 | 7 | 8 | 9 | 10 | 11 | 12 | 13=>exact h
 | 14=>obtain ⟨c,Q,N,h3,h4,h5⟩:=h; exact ⟨c,Q,N,yH h3 F.size,ze h4 F h3,fun hp=>zb (h5 hp) F h3⟩
 | j + 15=>trivial
theorem dh_last {S b off i n E:Nat} {uw uH q xv:Int} {base:Nat} {V V':World} {v:Value}:∀ j,j ≠ 15→DH S b off i n E uw uH q xv base False V j v→(j = 14→DH S b off i n E uw uH q xv base True V' 14 v)→DH S b off i n E uw uH q xv base True V' j v:=by
 intro j R h ja
 match j with
 | 0 | 1 | 2 | 3 | 4 | 5 | 6 | 7 | 8 | 9 | 10 | 11 | 12 | 13=>exact h
 | 14=>exact ja rfl
 | j + 15=>trivial
theorem hit_mid {V w1:World} {v1:Value} {l:List Od} (xA:l ≠ []) (hl:l.length ≤ 1000) (h6:w1.ownsRow V.heap.size 49 6 v1 (0 + l.length) ([] ++ l.flatMap Od.vs)) (h7:(V.alloc (D #[] 49)).grownBy w1 (Value.slice (some (J V.heap.size 0)) 0 0).ownBlock) :
  ∃ g cp,v1 = .slice (some (J g 0)) l.length cp∧l.length ≤ cp∧V.heap.size ≤ g∧g < w1.heap.size∧ORow w1 V.heap.size v1 l∧ym V w1:=by
 have Z:ORow w1 V.heap.size v1 l:=by
  show w1.ownsRow _ _ _ _ l.length _
  simpa using h6
 obtain ⟨g,cp,e,Q,N,h3⟩:=ch Z xA
 exact ⟨g,cp,e,Q,N,h3,Z,(dm _ _).grown h7 (by rw [zf]; omega) (fun k hk=>by simp [Value.ownBlock] at hk; omega)⟩
theorem row_here {W:World} {B g n cp i:Nat} {l:List Od} {o:Od} (h:ORow W B (.slice (some (J g 0)) n cp) l) (hl:l.length ≤ 1000) (hi:l[i]? = some o):W.rangeAt g (i * 6) o.vs∧∀ j,j < 6→W.frozen? (J g (i * 6 + j)) = false:=by
 obtain ⟨a',c',e,_,hc⟩:=zK h (by omega)
 obtain ⟨b',uG,e2,_,hc⟩:=hc (by rintro rfl; simp at hi)
 rw [e2] at e
 simp only [Value.slice.injEq,Option.some.injEq,Addr.mk.injEq,and_true] at e
 obtain ⟨⟨rfl,rfl⟩,-⟩:=e
 refine ⟨by simpa using hc i o hi,fun j R=>?_⟩
 rcases h.2 with ⟨Q,_⟩ | ⟨g',oX,xp,Q,_,h3,h4,_,h5,_⟩
 ·cases Q
 ·simp only [Value.slice.injEq,Option.some.injEq,Addr.mk.injEq,and_true] at Q
  obtain ⟨rfl,-⟩:=Q
  have hil:=(yE.1 hi).1
  have:=(bu h3 qt (i * 6 + j) (by rw [h5]; omega)).2
  rwa [Nat.zero_add] at this
theorem range_left {W:World} {S g k:Nat} {a0 a1 a2 a3 a4 a5 x y:Value} (h:W.rangeAt S 0 [a0,a1,a2,a3,a4,a5]) (hg:g ≠ S):((W.setCell (J g k) x).setCell (J S 3) y).rangeAt S 0 [a0,a1,a2,y,a4,a5]:=by
 have Z:∀ j,j ≠ 3→((W.setCell (J g k) x).setCell (J S 3) y).cell? (J S j) = W.cell? (J S j):=fun j R=>(yJ _ _ _ _ (zN (fun e=>R e.symm))).trans (yJ _ _ _ _ (fun e=>hg (congrArg Addr.block e)))
 intro j u R
 rw [Nat.zero_add]
 match j,R with
 | 0,R=>cases R; exact (Z 0 (by omega)).trans (h 0 _ rfl)
 | 1,R=>cases R; exact (Z 1 (by omega)).trans (h 1 _ rfl)
 | 2,R=>cases R; exact (Z 2 (by omega)).trans (h 2 _ rfl)
 | 3,R=>cases R; exact yK _ _ _ ((yJ _ _ _ _ (fun e=>hg (congrArg Addr.block e))).trans (h 3 _ rfl))
 | 4,R=>cases R; exact (Z 4 (by omega)).trans (h 4 _ rfl)
 | 5,R=>cases R; exact (Z 5 (by omega)).trans (h 5 _ rfl)
 | j + 6,R=>simp at R
theorem range_far {W:World} {b o p k:Nat} {cs:List Value} {x:Value} (h:W.rangeAt b o cs) (F:p ≠ b):(W.setCell (J p k) x).rangeAt b o cs:=fun j u R =>
 (yJ _ _ _ _ (fun e=>F (congrArg Addr.block e))).trans (h j u R)
theorem l04Hit_any (v:Value) (l:List Od) (t o:Od) (i:Nat) (w:World) (hr:RdR Od.vs 6 w v l) (hn:l.length ≤ 1000) (kR:l[i]? = some o) (ht0:0 ≤ t.left) (ht1:t.left ≤ 1000000) (ho0:0 ≤ o.left) (vR:o.left ≤ 1000000) :
  Calls Tryz.prog 136 #[v,.agg (yu t.id t.side t.ticks t.left t.life t.tag).toArray,H i] w fun e w'=>∃ v',e = .returned (.tuple #[v',.agg (Od.vs { t with left:=t.left - min t.left o.left }).toArray,.agg (Ev.vs (trE t.id o.id (min t.left o.left) o.ticks)).toArray])∧ORow w' w.heap.size v' (pO l i o (min t.left o.left))∧ym w w':=by
 obtain ⟨i0,uz,uA,uF,uR⟩:=info_parts Tryz.infoOrder
 have hil:=(yE.1 kR).1
 have xA:l ≠ []:=by rintro rfl; simp at kR
 have HNE:=Y xA
 obtain ⟨a,E,rfl,xB,hc⟩:=hr
 obtain ⟨b,off,rfl,F,L⟩:=hc xA
 have HCL:=Y L
 have HIO:=Y kR
 obtain ⟨uw,um,xO,xF,ul,uN⟩:=t
 obtain ⟨uH,uP,xv,xE,uO,vT⟩:=o
 simp only at ht0 ht1 ho0 vR ⊢
 generalize hq:min xF xE = q
 have hqa:0 ≤ q:=by omega
 have hqb:q ≤ xF:=by omega
 have hqc:q ≤ xE:=by omega
 have HQ:=Y hq
 clear L hc kR xA hq xB
 have xy:=zf w (D (yu uw um xO xF ul uN).toArray 49)
 have xY:((w.alloc (D (yu uw um xO xF ul uN).toArray 49)).alloc (D (yu 0 0 0 0 0 ⟨#[]⟩).toArray 49)).heap.size = w.heap.size + 1 + 1:=by rw [zf,xy]
 have jg:(((w.alloc (D (yu uw um xO xF ul uN).toArray 49)).alloc (D (yu 0 0 0 0 0 ⟨#[]⟩).toArray 49)).alloc (D (yt 0 0 0 0 0 0 0 0 ⟨#[]⟩ 0 0 0 0 0).toArray 46)).heap.size = w.heap.size + 1 + 1 + 1:=by rw [zf,xY]
 have r1:=zg w (yu uw um xO xF ul uN) 49
 have t1:=zt w (yu uw um xO xF ul uN) 49
 have t2:=zt (w.alloc (D (yu uw um xO xF ul uN).toArray 49)) (yu 0 0 0 0 0 ⟨#[]⟩) 49
 have t3:=zt ((w.alloc (D (yu uw um xO xF ul uN).toArray 49)).alloc (D (yu 0 0 0 0 0 ⟨#[]⟩).toArray 49)) (yt 0 0 0 0 0 0 0 0 ⟨#[]⟩ 0 0 0 0 0) 46
 rw [xy] at t2
 rw [xY] at t3
 have b1:=dm w (D (yu uw um xO xF ul uN).toArray 49)
 have b2:Below (w.heap.size + 1) (w.alloc (D (yu uw um xO xF ul uN).toArray 49)) ((w.alloc (D (yu uw um xO xF ul uN).toArray 49)).alloc (D (yu 0 0 0 0 0 ⟨#[]⟩).toArray 49)):=(Below.refl _ _).alloc (by omega) _
 have b3:Below (w.heap.size + 1 + 1) ((w.alloc (D (yu uw um xO xF ul uN).toArray 49)).alloc (D (yu 0 0 0 0 0 ⟨#[]⟩).toArray 49)) (((w.alloc (D (yu uw um xO xF ul uN).toArray 49)).alloc (D (yu 0 0 0 0 0 ⟨#[]⟩).toArray 49)).alloc (D (yt 0 0 0 0 0 0 0 0 ⟨#[]⟩ 0 0 0 0 0).toArray 46)):=(Below.refl _ _).alloc (by omega) _
 have b23:=b2.trans (b3.mono (by omega))
 have HX:Hid (World.rangeAt _ w.heap.size 0 _∧World.there _ w.heap.size 0 6∧World.there _ (w.heap.size + 1) 0 6∧World.there _ (w.heap.size + 1 + 1) 0 14):=⟨zb r1 b23 (by omega),ze t1 b23 (by omega),ze t2 b3 (by omega),t3⟩
 have xW:=Y (b1.trans (b23.mono (by omega)))
 have km:=Y jg
 clear xy xY jg r1 t1 t2 t3 b1 b2 b3 b23
 go_enter Tryz.func136,Tryz.ntmps136
 refine ds fun tg xq=>?_
 go_wp2_with fail
 refine U xq _ _ ?_
 clear xq
 generalize (((w.alloc (D (yu uw um xO xF ul uN).toArray 49)).alloc (D (yu 0 0 0 0 0 ⟨#[]⟩).toArray 49)).alloc (D (yt 0 0 0 0 0 0 0 0 ⟨#[]⟩ 0 0 0 0 0).toArray 46)) = hD at HX xW km ⊢
 have HX:Hid (hD.rangeAt w.heap.size 0 (yu uw um xO xF ul uN)∧hD.there w.heap.size 0 6∧hD.there (w.heap.size + 1) 0 6∧hD.there (w.heap.size + 1 + 1) 0 14):=U HX
 have t3:hD.cell? (J w.heap.size 3) = some (H xF):=(U HX).1 3 _ rfl
 have HCX:Hid (∀ j c,l[j]? = some c→hD.rangeAt b (off + j * 6) c.vs):=fun j c R=>zb (U HCL j c R) (U xW) F
 have o3:hD.cell? (J b (off + i * 6 + 3)) = some (H xE):=U HCX i _ (U HIO) 3 _ rfl
 have hil':(i:Int) < l.length:=by omega
 have hii:(0:Int) ≤ i:=by omega
 refine ds fun tg xq=>?_
 go_wp2_with fail
 go_quiet (fail)
 refine U xq _ _ ?_
 clear xq
 have hif:(if xE < xF then xE else xF) = q:=by have:=U HQ; split <;> omega
 simp only [hif]
 have jS:Hid ((hD.drewN nq).rangeAt w.heap.size 0 (yu uw um xO xF ul uN)∧(hD.drewN nq).there w.heap.size 0 6∧(hD.drewN nq).there (w.heap.size + 1) 0 6∧(hD.drewN nq).there (w.heap.size + 1 + 1) 0 14):=U HX
 have xT:Hid (ym w (hD.drewN nq)):=bI (U xW) _
 have HS1:Hid ((hD.drewN nq).heap.size = w.heap.size + 1 + 1 + 1):=U km
 have HC1:Hid (∀ j c,l[j]? = some c→(hD.drewN nq).rangeAt b (off + j * 6) c.vs):=U HCX
 clear t3 o3 hif HX xW km HCX
 generalize hD.drewN nq = yb at jS xT HS1 HC1 ⊢
 refine ds fun tg xq=>?_
 refine zh (RG yb (fun f=>{ tmps:=#[.slice (some (J b off)) l.length E,.agg (yu uw um xO xF ul uN).toArray,H i,M,I w.heap.size 0,M,.slice none 0 0,I (w.heap.size + 1) 0,I (w.heap.size + 1 + 1) 0,H q,f 14,M,I w.heap.size 3,H xF,.slice (some (J b off)) l.length E,H i,I b (off + i * 6),I b (off + i * 6 + 3),H xE,H q,f 0,f 1,f 2,f 3,f 4,f 5,f 6,f 7,f 8,f 9,f 10,f 11,f 12,f 13,M,M,M,M,M,M,M,M,M,M,M,M,M,M,M,M,M,M,M,M,M,M,M,M,M,M,M,M,M,M,M,M,M,M,M,M],defers:=[] }) 15 (DH w.heap.size b off i l.length E uw uH q xv yb.heap.size)) (by kernel_rfl) ?_ ?_ ?_
 ·exact ⟨fun _=>M,rfl,⟨rfl,rfl,rfl,Nat.le_refl _,fun _ _=>rfl⟩,fun j R=>by rw [yG] at R; split at R <;> simp at R⟩
 ·rintro x hR V ⟨f,rfl,xh,X⟩ hx xM
  have xn:=zS xM hx (acyc _ (by kernel_rfl))
  have k15:x[15]? = some true:=xn 15 (by simp)
  obtain ⟨c,e14,pg,kE,-,hcr⟩:=X 14 (xn 14 (by simp))
  have py:=Y (hcr k15)
  refine U xq _ _ ?_
  clear xq
  have HS:=U HS1
  have hsv:=xh.size
  have HXV:Hid (V.rangeAt w.heap.size 0 (yu uw um xO xF ul uN)∧V.there w.heap.size 0 6∧V.there (w.heap.size + 1) 0 6∧V.there (w.heap.size + 1 + 1) 0 14):=⟨zb (U jS).1 xh (by omega),ze (U jS).2.1 xh (by omega),ze (U jS).2.2.1 xh (by omega),ze (U jS).2.2.2 xh (by omega)⟩
  have xr:=Y (dq (U xT) xh)
  have vi:b < yb.heap.size:=by omega
  have jV:Hid (∀ j c,l[j]? = some c→V.rangeAt b (off + j * 6) c.vs):=fun j c R=>zb (U HC1 j c R) xh vi
  have hcS:w.heap.size + 1 + 1 < c:=by omega
  simp only [e14]
  generalize f 0 = u20,f 1 = u21,f 2 = u22,f 3 = u23,f 4 = u24,f 5 = u25,f 6 = u26,f 7 = u27,f 8 = u28,f 9 = u29,f 10 = u30,f 11 = u31,f 12 = u32,f 13 = u33
  clear X xn k15 e14 hcr xM hx xh pg jS xT HC1 HS1 HS
  have vC:=Y (World.ownsRow_made (base:=V.heap.size) (e:=49) (size:=6) V #[] 0 qt (by decide) rfl)
  have uU:Hid (∀ j u,(l.flatMap Od.vs)[j]? = some u→(V.alloc (D #[] 49)).cell? (((J b off):Addr).add j) = some u):=fun j u hu=>by
   have h:=bK (W:=V.alloc (D #[] 49)) (g:=b) (off:=off) (l:=l) (fun i c hi=>zb (U jV i c hi) ((Below.refl V.heap.size V).alloc qt _) (by omega)) 0 l.length j u (by simpa using hu)
   simpa using h
  refine ds fun tg xq=>?_
  go_wp2_with (at_builtin; go_must (refine wpList_append_own _ rfl _ _ 26 rfl V.heap.size 49 i0 _ 6 56 Tryz.underlying26 uz uA uF uR rfl (by decide) (.slice (some (J V.heap.size 0)) 0 0) 0 [] rfl (U vC) (J b off) l.length E (l.flatMap Od.vs) rfl (by rw [zH Od.len]) (U uU) (aA l) (by unfold maxLen; omega) (by omega) (by simp) ?_); intro v1 w1 uT qd _; obtain ⟨g,cp,rfl,vO,hVg,hgw,ho1',xS⟩:=hit_mid (U HNE) hn uT qd; have vh:=Y ho1'; have xT:=Y xS; clear uT qd ho1' xS)
  refine U xq _ _ ?_
  clear xq uU vC
  have jS:Hid (w1.rangeAt w.heap.size 0 (yu uw um xO xF ul uN)∧w1.there w.heap.size 0 6∧w1.there (w.heap.size + 1) 0 6∧w1.there (w.heap.size + 1 + 1) 0 14):=⟨zb (U HXV).1 (U xT) (by omega),ze (U HXV).2.1 (U xT) (by omega),ze (U HXV).2.2.1 (U xT) (by omega),ze (U HXV).2.2.2 (U xT) (by omega)⟩
  have oQ:=Y (zb (U py) (U xT) kE)
  have xJ:=Y ((U xr).trans ((U xT).mono (U xr).size))
  have uQ:=row_here (U vh) hn (U HIO)
  have c3:w1.cell? (J g (i * 6 + 3)) = some (H xE):=uQ.1 3 _ rfl
  have f3:w1.frozen? (J g (i * 6 + 3)) = false:=uQ.2 3 (by omega)
  have t3:w1.cell? (J w.heap.size 3) = some (H xF):=(U jS).1 3 _ rfl
  have s3:w1.frozen? (J w.heap.size 3) = false:=by have:=((U jS).2.1 3 (by omega)).2; rwa [Nat.zero_add] at this
  have hgS:g ≠ w.heap.size:=by omega
  have hSg:w.heap.size ≠ g:=by omega
  have qW:-9223372036854775808 ≤ xE - q:=by omega
  have hq2:xE - q ≤ 9223372036854775807:=by omega
  have hq3:-9223372036854775808 ≤ xF - q:=by omega
  have hq4:xF - q ≤ 9223372036854775807:=by omega
  clear uQ
  refine ds fun tg xq=>?_
  go_wp2_with fail
  refine U xq _ _ ?_
  clear xq
  refine ds fun tg xq=>?_
  go_wp2_with fail
  refine U xq _ _ ?_
  clear xq
  have HZO:Hid (ORow ((w1.setCell (J g (i * 6 + 3)) (H (xE - q))).setCell (J w.heap.size 3) (H (xF - q))) V.heap.size (.slice (some (J g 0)) l.length cp) (l.set i ⟨uH,uP,xv,xE - q,uO,vT⟩)):=zr (oRow_left (U vh) rfl (U HIO) (xE - q)).1 (by simp [Value.ownBlock]; omega) _ _
  have HZT:=Y (range_left (k:=i * 6 + 3) (x:=H (xE - q)) (y:=H (xF - q)) (U jS).1 hgS)
  have HZE:=Y (range_far (p:=w.heap.size) (k:=3) (x:=H (xF - q)) (range_far (p:=g) (k:=i * 6 + 3) (x:=H (xE - q)) (U oQ) (by omega)) (by omega))
  have HZ1:=Y (zB (c:=w.heap.size) (j:=3) (u:=H (xF - q)) (zB (c:=g) (j:=i * 6 + 3) (u:=H (xE - q)) (U jS).2.2.1))
  have HZ2:=Y (zB (c:=w.heap.size) (j:=3) (u:=H (xF - q)) (zB (c:=g) (j:=i * 6 + 3) (u:=H (xE - q)) (U jS).2.2.2))
  have HZB:=Y (((U xJ).setCell (p:=(J g (i * 6 + 3))) (by simp; omega) (H (xE - q))).setCell (p:=(J w.heap.size 3)) qt (H (xF - q)))
  have hgz:g < ((w1.setCell (J g (i * 6 + 3)) (H (xE - q))).setCell (J w.heap.size 3) (H (xF - q))).heap.size:=by simp [World.setCell]; exact hgw
  have z3:((w1.setCell (J g (i * 6 + 3)) (H (xE - q))).setCell (J w.heap.size 3) (H (xF - q))).cell? (J g (i * 6 + 3)) = some (H (xE - q)):=(yJ _ _ _ _ (fun e=>hSg (congrArg Addr.block e))).trans (yK _ _ _ c3)
  generalize ((w1.setCell (J g (i * 6 + 3)) (H (xE - q))).setCell (J w.heap.size 3) (H (xF - q))) = ho at HZO HZT HZE HZ1 HZ2 HZB hgz z3 ⊢
  clear c3 f3 t3 s3 jS oQ xJ vh xT HXV py xr jV hgw
  refine ds fun tg xq=>?_
  have HT:Hid (∀ (u0 u1 u2 u3 u5 u6 u9 u12 u13 u14 u15 u16 u17 u18 u19 u20 u21 u22 u23 u24 u25 u26 u27 u28 u29 u30 u31 u32 u33 u34 u35 u36 u37 u38 u39 u40 u41 u42 u43 u44 u45 u46 u47 u48 u49 u50 u51 u52 u53 u54 u55 u56 u57 u58 u59 u60 u61 u62 u63 u64 u65 u66 u67 u68 u69 v11:Value) (Z':World),ORow Z' (w.heap.size + 1 + 1 + 1) v11 (pO l i ⟨uH,uP,xv,xE,uO,vT⟩ q)→ym w Z'→Z'.rangeAt w.heap.size 0 (yu uw um xO (xF - q) ul uN)→Z'.there (w.heap.size + 1) 0 6→Z'.there (w.heap.size + 1 + 1) 0 14→Z'.rangeAt c 0 (yt 3 0 0 0 0 0 0 0 ⟨#[]⟩ uw uH q xv 0)→tg { tmps:=#[u0,u1,u2,u3,I w.heap.size 0,u5,u6,I (w.heap.size + 1) 0,I (w.heap.size + 1 + 1) 0,u9,I c 0,v11,u12,u13,u14,u15,u16,u17,u18,u19,u20,u21,u22,u23,u24,u25,u26,u27,u28,u29,u30,u31,u32,u33,u34,u35,u36,u37,u38,u39,u40,u41,u42,u43,u44,u45,u46,u47,u48,u49,u50,u51,u52,u53,u54,u55,u56,u57,u58,u59,u60,u61,u62,u63,u64,u65,u66,u67,u68,u69],defers:=[] } Z'):=by
   intro u0 u1 u2 u3 u5 u6 u9 u12 u13 u14 u15 u16 u17 u18 u19 u20 u21 u22 u23 u24 u25 u26 u27 u28 u29 u30 u31 u32 u33 u34 u35 u36 u37 u38 u39 u40 u41 u42 u43 u44 u45 u46 u47 u48 u49 u50 u51 u52 u53 u54 u55 u56 u57 u58 u59 u60 u61 u62 u63 u64 u65 u66 u67 u68 u69 v11 Z' hO hB hT Q N hE
   refine U xq _ _ ?_
   have HO:=Y hO
   have HB:=Y hB
   have kO:=Y hT
   have HE:=Y hE
   have HH1:=Y Q
   have HH2:=Y N
   clear hO hB hT hE Q N xq
   obtain ⟨V0,oG⟩:∃ V:World,V = { Z' with drawn:=Z'.drawn + 1 }:=⟨_,rfl⟩
   have HO:Hid (ORow V0 (w.heap.size + 1 + 1 + 1) v11 (pO l i ⟨uH,uP,xv,xE,uO,vT⟩ q)):=by rw [oG]; exact U HO
   have HB:Hid (ym w V0):=by rw [oG]; exact (U HB).trans ⟨rfl,rfl,rfl,Nat.le_refl _,fun _ _=>rfl⟩
   have kO:Hid (V0.rangeAt w.heap.size 0 (yu uw um xO (xF - q) ul uN)):=by rw [oG]; exact U kO
   have HE:Hid (V0.rangeAt c 0 (yt 3 0 0 0 0 0 0 0 ⟨#[]⟩ uw uH q xv 0)):=by rw [oG]; exact U HE
   have HH1:Hid (V0.there (w.heap.size + 1) 0 6):=by rw [oG]; exact U HH1
   have HH2:Hid (V0.there (w.heap.size + 1 + 1) 0 14):=by rw [oG]; exact U HH2
   obtain ⟨V1,qb⟩:∃ V:World,V = V0.setCells (w.heap.size + 1) 0 (yu uw um xO (xF - q) ul uN):=⟨_,rfl⟩
   obtain ⟨V2,kp⟩:∃ V:World,V = V1.setCells (w.heap.size + 1 + 1) 0 (yt 3 0 0 0 0 0 0 0 ⟨#[]⟩ uw uH q xv 0):=⟨_,rfl⟩
   have vh:Hid (ORow V1 (w.heap.size + 1 + 1 + 1) v11 (pO l i ⟨uH,uP,xv,xE,uO,vT⟩ q)):=by rw [qb]; exact bU (by omega) _ _ _ (U HO)
   have xT:Hid (ym w V1):=by rw [qb]; exact zm _ (by omega) _ _ _ (U HB)
   have ju:Hid (V1.rangeAt (w.heap.size + 1) 0 (yu uw um xO (xF - q) ul uN)):=by rw [qb]; exact yV V0 _ 0 _ (fun j R=>U HH1 j R)
   have oQ:Hid (V1.rangeAt c 0 (yt 3 0 0 0 0 0 0 0 ⟨#[]⟩ uw uH q xv 0)):=by rw [qb]; exact cX (U HE) (by omega)
   have HH3:Hid (V1.there (w.heap.size + 1 + 1) 0 14):=by rw [qb]; exact yZ (U HH2) _ _ _
   have HOE:Hid (ORow V2 w.heap.size v11 (pO l i ⟨uH,uP,xv,xE,uO,vT⟩ q)):=by rw [kp]; exact aV (bU (by omega) _ _ _ (U vh)) (by omega)
   have kS:Hid (ym w V2):=by rw [kp]; exact zm _ (by omega) _ _ _ (U xT)
   have kX:Hid (V2.rangeAt (w.heap.size + 1 + 1) 0 (yt 3 0 0 0 0 0 0 0 ⟨#[]⟩ uw uH q xv 0)):=by rw [kp]; exact yV V1 _ 0 _ (fun j R=>U HH3 j R)
   have ju:Hid (V2.rangeAt (w.heap.size + 1) 0 (yu uw um xO (xF - q) ul uN)):=by rw [kp]; exact cX (U ju) (by omega)
   have HV0:=Y oG
   have HV1:=Y qb
   have HV2:=Y kp
   clear oG qb kp HO HB vh xT
   go_wp2_with fail
   refine zh (R8A (fun f=>{ tmps:=#[u0,u1,u2,u3,I w.heap.size 0,u5,f 3,I (w.heap.size + 1) 0,I (w.heap.size + 1 + 1) 0,u9,I c 0,v11,u12,u13,u14,u15,u16,u17,u18,u19,u20,u21,u22,u23,u24,u25,u26,u27,u28,u29,u30,u31,u32,u33,u34,u35,u36,u37,u38,u39,u40,u41,u42,u43,u44,u45,u46,u47,u48,u49,u50,u51,u52,u53,u54,u55,u56,u57,u58,u59,u60,u61,u62,u63,u64,u65,u66,f 0,f 1,f 2],defers:=[] }) v11 (.agg (yu uw um xO (xF - q) ul uN).toArray) (.agg (yt 3 0 0 0 0 0 0 0 ⟨#[]⟩ uw uH q xv 0).toArray) V0 V1 V2) (by kernel_rfl) ?_ ?_ ?_
   ·exact ⟨fun j=>if j = 3 then u6 else if j = 0 then u67 else if j = 1 then u68 else u69,rfl,⟨by simp,by simp,by simp,by simp,by simp,fun _=>(U HV0).symm,by simp,by simp⟩⟩
   ·rintro x hR V' ⟨f,rfl,A⟩ hx xM
    have xn:=zO xM hx (by kernel_rfl)
    have e3:=A.f3 (xn 3 (by simp))
    have eW:=A.s2 (xn 4 (by simp)) (xn 5 (by simp))
    subst eW
    simp only [e3]
    clear A xn e3 xM hx
    obtain ⟨d0,d1,d2,d3,d4,d5⟩:=yA (U ju)
    obtain ⟨e0,e1,e2,e3,e4,e5,e6,e7,e8,e9,kY,e11,e12,e13⟩:=yD (U kX)
    go_wp2_with fail
    try simp only [Exit.inBlock,Exit.then]
    refine bodyPost_ret (by simp [results,Tryz.results136,go_sem,d0,d1,d2,d3,d4,d5,e0,e1,e2,e3,e4,e5,e6,e7,e8,e9,kY,e11,e12,e13]; try rfl) rfl ?_
    exact ⟨v11,rfl,U HOE,U kS⟩
   ·rintro x hR V' i' o' ⟨f,rfl,A⟩ L hx Z xu G
    have n5:i' < 5→x[5]? = some false:=fun xH=>by
     rcases aN hx (show 5 < 6 by omega) with h | h
     ·exact h
     ·have:=L 5 _ rfl h ⟨i',.phase⟩ (by rcases (by omega:i' = 0 ∨ i' = 1 ∨ i' = 2 ∨ i' = 3 ∨ i' = 4) with rfl | rfl | rfl | rfl | rfl <;> simp) rfl
      rw [xu] at this; cases this
    have n4:i' = 0 ∨ i' = 1 ∨ i' = 3→x[4]? = some false:=fun xH=>by
     rcases aN hx (show 4 < 6 by omega) with h | h
     ·exact h
     ·have:=L 4 _ rfl h ⟨i',.phase⟩ (by rcases xH with rfl | rfl | rfl <;> simp) rfl
      rw [xu] at this; cases this
    have xw:=Y A
    clear L
    match i',Z with
    | 0,Z =>
     obtain rfl:=ya Z
     clear G A
     rw [if_pos (by rfl)];unfold Oper.wp;go_simp
     exact ⟨upd f 0 v11,by simp [upd],r8_val (U xw) 0 _ (by omega) (fun _=>rfl) (by omega) (by omega) (by omega)⟩
    | 1,Z =>
     obtain rfl:=ya Z
     have eV:=A.s0 (n4 (by omega))
     subst eV
     obtain ⟨c0,c1,c2,c3,c4,c5⟩:=yA (U kO)
     clear G A
     rw [if_pos (by rfl)];unfold Oper.wp;go_simp
     exact ⟨upd f 1 (.agg (yu uw um xO (xF - q) ul uN).toArray),by simp [upd],r8_val (U xw) 1 _ (by omega) (by omega) (fun _=>rfl) (by omega) (by omega)⟩
    | 2,Z =>
     obtain rfl:=ya Z
     have vv:Hid (V'.rangeAt c 0 (yt 3 0 0 0 0 0 0 0 ⟨#[]⟩ uw uH q xv 0)):=by
      rcases aN hx (show 4 < 6 by omega) with h | h
      ·rw [A.s0 h]; exact U HE
      ·rw [A.s1 h (n5 (by omega))]; exact U oQ
     obtain ⟨c0,c1,c2,c3,c4,c5,c6,c7,c8,c9,c10,c11,c12,c13⟩:=yD (U vv)
     clear G A
     rw [if_pos (by rfl)];unfold Oper.wp;go_simp
     exact ⟨upd f 2 (.agg (yt 3 0 0 0 0 0 0 0 ⟨#[]⟩ uw uH q xv 0).toArray),by simp [upd],r8_val (U xw) 2 _ (by omega) (by omega) (by omega) (fun _=>rfl) (by omega)⟩
    | 3,Z =>
     obtain rfl:=ya Z
     have g0:=A.f0 (yd G 0 rfl)
     clear G A
     rw [if_pos (by rfl)];unfold Oper.wp;go_simp
     exact ⟨upd f 3 v11,by simp [upd,g0],r8_val (U xw) 3 _ (by omega) (by omega) (by omega) (by omega) (fun _=>rfl)⟩
    | 4,Z =>
     obtain rfl:=ya Z
     have g1:=A.f1 (yd G 1 rfl)
     have eV:=A.s0 xu
     subst eV
     have xD:=U HH1
     obtain ⟨y0,z0,q0⟩:=zc xD (j:=0) (by omega)
     obtain ⟨y1,z1,q1⟩:=zc xD (j:=1) (by omega)
     obtain ⟨y2,z2,q2⟩:=zc xD (j:=2) (by omega)
     obtain ⟨y3,z3,q3⟩:=zc xD (j:=3) (by omega)
     obtain ⟨y4,z4,q4⟩:=zc xD (j:=4) (by omega)
     obtain ⟨y5,z5,q5⟩:=zc xD (j:=5) (by omega)
     have n5':=n5 (by omega)
     clear G A xD
     rw [if_pos (by rfl)];unfold Oper.wp;go_simp
     have HR4:=r8_4 (U xw) xu n5'
     conv at HR4=>arg 9; rw [U HV1]
     exact ⟨f,by simp [g1],HR4⟩
    | 5,Z =>
     obtain rfl:=ya Z
     have g2:=A.f2 (yd G 2 rfl)
     have k4:x[4]? = some true:=G ⟨4,.chain⟩ (by simp) rfl
     have eV:=A.s1 k4 xu
     subst eV
     have xD:=U HH3
     have HR5:=Y (r8_5 (U xw) k4 xu)
     clear xw A
     obtain ⟨y0,z0,q0⟩:=zc xD (j:=0) (by omega)
     obtain ⟨y1,z1,q1⟩:=zc xD (j:=1) (by omega)
     obtain ⟨y2,z2,q2⟩:=zc xD (j:=2) (by omega)
     obtain ⟨y3,z3,q3⟩:=zc xD (j:=3) (by omega)
     obtain ⟨y4,z4,q4⟩:=zc xD (j:=4) (by omega)
     obtain ⟨y5,z5,q5⟩:=zc xD (j:=5) (by omega)
     obtain ⟨y6,z6,q6⟩:=zc xD (j:=6) (by omega)
     obtain ⟨y7,z7,q7⟩:=zc xD (j:=7) (by omega)
     obtain ⟨y8,z8,q8⟩:=zc xD (j:=8) (by omega)
     obtain ⟨y9,z9,q9⟩:=zc xD (j:=9) (by omega)
     obtain ⟨y10,z10,q10⟩:=zc xD (j:=10) (by omega)
     obtain ⟨y11,z11,q11⟩:=zc xD (j:=11) (by omega)
     obtain ⟨y12,z12,q12⟩:=zc xD (j:=12) (by omega)
     obtain ⟨y13,z13,q13⟩:=zc xD (j:=13) (by omega)
     have hsf:=sfl
     clear G xD
     rw [if_pos (by rfl)];unfold Oper.wp;go_simp
     have HR6:=U HR5
     conv at HR6=>arg 9; rw [U HV2]
     exact ⟨upd f 5 (.agg (yt 3 0 0 0 0 0 0 0 ⟨#[]⟩ uw uH q xv 0).toArray),by simp [upd,g2],HR6⟩
    | i' + 6,Z=>simp at Z
  clear xq
  by_cases hz:xE - q = 0
  ·have b0:(xE - q == 0) = true:=by simpa using hz
   have HH:=Y (hit_same (l:=l) (i:=i) (o:=⟨uH,uP,xv,xE,uO,vT⟩) hz)
   clear hz
   generalize hleft:l.set i ⟨uH,uP,xv,xE - q,uO,vT⟩ = left at HZO HH
   have hll:left.length = l.length:=by rw [← hleft,List.length_set]
   clear hleft
   have HC7:Hid (∀ j c,left[j]? = some c→ho.rangeAt g (0 + j * 6) c.vs):=fun j c R=>by
    have:=(row_here (U HZO) (by omega) R).1
    rwa [Nat.zero_add]
   have hll1:l.length ≤ 1000:=hn
   have hicp:i ≤ cp:=by omega
   have oI:i + 1 ≤ l.length:=by omega
   have hi1':(i:Int) + 1 ≤ l.length:=by omega
   have hlcp:(l.length:Int) ≤ cp:=by omega
   have h0i:(0:Int) ≤ (i:Int) + 1:=by omega
   go_wp2_with fail
   clear z3
   refine cE (R7A (.slice (some (J g 0)) l.length cp) ho (C7 (.slice (some (J g 0)) l.length cp) g l.length cp i) (left.take i) (left.take i ++ left.drop (i + 1)) (fun f=>{ tmps:=#[.slice (some (J b off)) l.length E,.agg (yu uw um xO xF ul uN).toArray,H i,M,I w.heap.size 0,M,.slice none 0 0,I (w.heap.size + 1) 0,I (w.heap.size + 1 + 1) 0,H q,I c 0,f 10,I w.heap.size 3,H xF,.slice (some (J b off)) l.length E,H i,I b (off + i * 6),I b (off + i * 6 + 3),H xE,H q,u20,u21,u22,u23,u24,u25,u26,u27,u28,u29,u30,u31,u32,u33,.slice (some (J V.heap.size 0)) 0 0,.slice (some (J b off)) l.length E,.slice (some (J g 0)) l.length cp,.slice (some (J g 0)) l.length cp,H i,I g (i * 6),I g (i * 6 + 3),H xE,H q,H (xE - q),I g (i * 6),I g (i * 6 + 3),I w.heap.size 3,H xF,H q,H (xF - q),I w.heap.size 3,.slice (some (J g 0)) l.length cp,H i,I g (i * 6),I g (i * 6 + 3),H (xE - q),.bool true,f 0,f 1,f 2,f 3,f 4,f 5,f 6,f 7,f 8,f 9,M,M,M],defers:=[] })) (by kernel_rfl) ?_ ?_ ?_
   ·exact ⟨fun j=>if j = 10 then .slice (some (J g 0)) l.length cp else M,rfl,⟨⟨rfl,rfl,rfl,Nat.le_refl _,fun _ _=>rfl⟩,fun j R=>by rw [yG] at R; split at R <;> simp at R,fun _=>rfl,by simp,by simp,by simp,by simp,by simp,by simp,by simp⟩⟩
   ·rintro x hR V' ⟨f,rfl,A⟩ hx xM
    have xn:=zS xM hx (acyc _ (by kernel_rfl))
    have k9:x[9]? = some true:=xn 9 (by simp)
    have k10:x[10]? = some true:=xn 10 (by simp)
    have HO9:=Y (A.m9 k9)
    have kY:f 10 = f 9:=A.m10 k10
    have xr:=Y A.bel
    simp only [kY]
    clear A xn k9 k10 kY xM hx
    have qM:=(U HZB).size
    refine U HT _ _ _ _ _ _ _ _ _ _ _ _ _ _ _ _ _ _ _ _ _ _ _ _ _ _ _ _ _ _ _ _ _ _ _ _ _ _ _ _ _ _ _ _ _ _ _ _ _ _ _ _ _ _ _ _ _ _ _ _ _ _ _ _ _ _ _ (by rw [← U HH]; exact aV (U HO9) (by omega)) ((U HZB).trans ((U xr).mono qM)) (zb (U HZT) (U xr) (by omega)) (ze (U HZ1) (U xr) (by omega)) (ze (U HZ2) (U xr) (by omega)) (zb (U HZE) (U xr) (by omega))
   ·rintro x hR V i' o' ⟨f,rfl,A⟩ hx Z xu G
    have qj:=Y A
    have pu:i' < 10→x[10]? = some false:=fun xH=>by
     have uS:10 < x.length:=by rw [hx]; simp
     cases F:x[10]
     ·rw [yF uS,F]
     ·have:=A.o10 (by rw [yF uS,F]) i' xH
      rw [xu] at this; cases this
    match i',Z with
    | 0,Z =>
     obtain rfl:=ya Z
     clear A G
     rw [if_pos (by rfl)];unfold Oper.wp;go_simp
     exact ⟨upd f 0 (.slice (some (J V.heap.size 0)) 0 0),by simp [upd],r7_0 (U qj) xu (fun _=>trivial)⟩
    | 1,Z =>
     obtain rfl:=ya Z
     have s5:f 10 = .slice (some (J g 0)) l.length cp:=A.s5 (pu (by omega))
     clear A G
     rw [if_pos (by rfl)];unfold Oper.wp;go_simp
     exact ⟨upd f 1 (.slice (some (J g 0)) l.length cp),by simp [upd,s5],ay (U qj) 1 _ rfl (by decide) (by decide) (by decide) (by decide)⟩
    | 2,Z =>
     obtain rfl:=ya Z
     clear A G
     rw [if_pos (by rfl)];unfold Oper.wp;go_simp
     exact ⟨upd f 2 (H i),by simp [upd],ay (U qj) 2 _ rfl (by decide) (by decide) (by decide) (by decide)⟩
    | 3,Z =>
     obtain rfl:=ya Z
     have g1:C7 (.slice (some (J g 0)) l.length cp) g l.length cp i 1 (f 1):=A.c 1 (yd G 1 rfl)
     have g2:C7 (.slice (some (J g 0)) l.length cp) g l.length cp i 2 (f 2):=A.c 2 (yd G 2 rfl)
     simp only [C7] at g1 g2
     clear A G
     rw [if_pos (by rfl)];unfold Oper.wp;go_simp
     exact ⟨upd f 3 (.slice (some (J g 0)) i cp),by simp [upd,g1,g2],ay (U qj) 3 _ rfl (by decide) (by decide) (by decide) (by decide)⟩
    | 4,Z =>
     obtain rfl:=ya Z
     have g3:C7 (.slice (some (J g 0)) l.length cp) g l.length cp i 3 (f 3):=A.c 3 (yd G 3 rfl)
     have k0:x[0]? = some true:=G ⟨0,.data⟩ (by simp) rfl
     have jV:Hid (∀ j c,left[j]? = some c→V.rangeAt g (0 + j * 6) c.vs):=fun j c R=>zb (U HC7 j c R) A.bel hgz
     simp only [C7] at g3
     clear A G
     rw [if_pos (by rfl)]
     refine wp_append_own V (.tmp 57) (.tmp 60) 26 rfl ho.heap.size 49 i0 _ 6 56 Tryz.underlying26 uz uA uF uR rfl (by decide) (f 0) 0 [] rfl ((U qj).m0 k0 xu) (J g 0) i cp ((left.take i).flatMap Od.vs) g3 (by rw [zH Od.len,List.length_take]; congr 1; omega) (by simpa using bK (W:=V) (g:=g) (off:=0) (l:=left) (U jV) 0 i) (aA _) (by unfold maxLen; omega) (by omega) (U qj).bel.size ?_
     intro v' w' xK uh _
     refine ⟨upd f 4 v',rfl,r7_4 (U qj) k0 xu (fun _=>trivial) ?_ uh⟩
     have xB:(left.take i).length = 0 + i:=by rw [List.length_take]; omega
     show w'.ownsRow _ _ _ _ (left.take i).length _
     rw [xB]; simpa using xK
    | 5,Z =>
     obtain rfl:=ya Z
     have s5:f 10 = .slice (some (J g 0)) l.length cp:=A.s5 (pu (by omega))
     clear A G
     rw [if_pos (by rfl)];unfold Oper.wp;go_simp
     exact ⟨upd f 5 (.slice (some (J g 0)) l.length cp),by simp [upd,s5],ay (U qj) 5 _ rfl (by decide) (by decide) (by decide) (by decide)⟩
    | 6,Z =>
     obtain rfl:=ya Z
     clear A G
     rw [if_pos (by rfl)];unfold Oper.wp;go_simp
     exact ⟨upd f 6 (H i),by simp [upd],ay (U qj) 6 _ rfl (by decide) (by decide) (by decide) (by decide)⟩
    | 7,Z =>
     obtain rfl:=ya Z
     have g6:C7 (.slice (some (J g 0)) l.length cp) g l.length cp i 6 (f 6):=A.c 6 (yd G 6 rfl)
     simp only [C7] at g6
     have hwr:IntKind.i64.wrap ((i:Int) + 1) = (i:Int) + 1:=by rw [IntKind.wrap_i64]; omega
     clear A G
     rw [if_pos (by rfl)];unfold Oper.wp;go_simp
     exact ⟨upd f 7 (H ((i:Int) + 1)),by simp [upd,g6],ay (U qj) 7 _ rfl (by decide) (by decide) (by decide) (by decide)⟩
    | 8,Z =>
     obtain rfl:=ya Z
     have g5:C7 (.slice (some (J g 0)) l.length cp) g l.length cp i 5 (f 5):=A.c 5 (yd G 5 rfl)
     have g7:C7 (.slice (some (J g 0)) l.length cp) g l.length cp i 7 (f 7):=A.c 7 (yd G 7 rfl)
     simp only [C7] at g5 g7
     clear A G
     by_cases hcp:cp = i + 1
     ·subst hcp
      rw [if_pos (by rfl)];unfold Oper.wp;go_simp
      exact ⟨upd f 8 (.slice (some (J g 0)) (l.length - (i + 1)) 0),by simp [upd,g5,g7]; omega,ay (U qj) 8 _ ⟨_,_,rfl,fun h=>by omega⟩ (by decide) (by decide) (by decide) (by decide)⟩
     ·rw [if_pos (by rfl)];unfold Oper.wp;go_simp
      exact ⟨upd f 8 (.slice (some (J g ((i + 1) * 6))) (l.length - (i + 1)) (cp - (i + 1))),by simp [upd,g5,g7],ay (U qj) 8 _ ⟨_,_,rfl,fun h=>rfl⟩ (by decide) (by decide) (by decide) (by decide)⟩
    | 9,Z =>
     obtain rfl:=ya Z
     have g8:C7 (.slice (some (J g 0)) l.length cp) g l.length cp i 8 (f 8):=A.c 8 (yd G 8 rfl)
     have k4:x[4]? = some true:=G ⟨4,.data⟩ (by simp) rfl
     have jV:Hid (∀ j c,left[j]? = some c→V.rangeAt g (0 + j * 6) c.vs):=fun j c R=>zb (U HC7 j c R) A.bel hgz
     obtain ⟨ad8,c8,g8,had⟩:=g8
     clear A G
     have hsrc8:∀ j u,((left.drop (i + 1)).flatMap Od.vs)[j]? = some u→V.cell? (ad8.add j) = some u:=by
      intro j u hu
      by_cases xH:i + 1 < l.length
      ·rw [had xH]
       have:=bK (W:=V) (g:=g) (off:=0) (l:=left) (U jV) (i + 1) (l.length - (i + 1)) j u (by rw [yX (by simp [hll])]; exact hu)
       simpa using this
      ·rw [yY (by omega)] at hu; simp at hu
     rw [if_pos (by rfl)]
     refine wp_append_own V (.tmp 61) (.tmp 65) 26 rfl ho.heap.size 49 i0 _ 6 56 Tryz.underlying26 uz uA uF uR rfl (by decide) (f 4) (left.take i).length ((left.take i).flatMap Od.vs) rfl ((U qj).m4 k4 xu) ad8 (l.length - (i + 1)) c8 ((left.drop (i + 1)).flatMap Od.vs) g8 (by rw [zH Od.len,List.length_drop,hll]) hsrc8 (aA _) (by unfold maxLen; rw [List.length_take]; omega) (by rw [List.length_take]; omega) (U qj).bel.size ?_
     intro v' w' xK uh _
     refine ⟨upd f 9 v',rfl,r7_9 (U qj) k4 xu (fun _=>trivial) ?_ uh⟩
     show w'.ownsRow _ _ _ _ (left.take i ++ left.drop (i + 1)).length _
     rw [yN,List.length_drop,hll,List.flatMap_append]
     exact xK
    | 10,Z =>
     obtain rfl:=ya Z
     have hA:∀ j,j < 10→x[j]? = some true:=fun j R=>G ⟨j,.phase⟩ (by
      match j,R with
      | 0,_=>simp
      | 1,_=>simp
      | 2,_=>simp
      | 3,_=>simp
      | 4,_=>simp
      | 5,_=>simp
      | 6,_=>simp
      | 7,_=>simp
      | 8,_=>simp
      | 9,_=>simp
      | n + 10,h=>omega) rfl
     clear A G
     rw [if_pos (by rfl)];unfold Oper.wp;go_simp
     exact ⟨upd f 10 (f 9),by simp [upd],r7_10 (U qj) hA xu (fun _=>trivial)⟩
    | n + 11,Z=>simp at Z
  ·have b0:(xE - q == 0) = false:=by simpa using hz
   have HH:=Y (hit_less (l:=l) (i:=i) (o:=⟨uH,uP,xv,xE,uO,vT⟩) hz)
   clear hz
   go_wp2_with fail
   refine U HT _ _ _ _ _ _ _ _ _ _ _ _ _ _ _ _ _ _ _ _ _ _ _ _ _ _ _ _ _ _ _ _ _ _ _ _ _ _ _ _ _ _ _ _ _ _ _ _ _ _ _ _ _ _ _ _ _ _ _ _ _ _ _ _ _ _ _ (by rw [← U HH]; exact aV (U HZO) (by omega)) (U HZB) (U HZT) (U HZ1) (U HZ2) (U HZE)
 ·rintro x hR V i' o' ⟨f,rfl,xh,X⟩ L hx Z xu G
  have n15':i' < 15→¬ x[15]? = some true:=fun xH uM=>by
   have ug:∀ j,j < 15→x[j]? = some true:=fun j R=>L 15 _ rfl uM ⟨j,.phase⟩ (by
    rcases (by omega:j = 0 ∨ j = 1 ∨ j = 2 ∨ j = 3 ∨ j = 4 ∨ j = 5 ∨ j = 6 ∨ j = 7 ∨ j = 8 ∨ j = 9 ∨ j = 10 ∨ j = 11 ∨ j = 12 ∨ j = 13 ∨ j = 14) with rfl | rfl | rfl | rfl | rfl | rfl | rfl | rfl | rfl | rfl | rfl | rfl | rfl | rfl | rfl <;> simp) rfl
   rw [ug i' xH] at xu; cases xu
  clear L
  have xr:=Y xh
  have HD:=Y X
  have hS1:=U HS1
  have vi:b < yb.heap.size:=by omega
  have z0:V.cell? (J w.heap.size 0) = some (H uw):=zb (U jS).1 xh (by omega) 0 _ rfl
  have o0:V.cell? (J b (off + i * 6)) = some (H uH):=zb (U HC1 i _ (U HIO)) xh vi 0 _ rfl
  have o2:V.cell? (J b (off + i * 6 + 2)) = some (H xv):=zb (U HC1 i _ (U HIO)) xh vi 2 _ rfl
  clear xq hS1
  match i',Z with
  | 0,Z =>
   obtain rfl:=ya Z
   clear G X xh
   rw [if_pos (by rfl)];unfold Oper.wp;go_simp
   exact ⟨upd f 0 (I w.heap.size 0),by simp [upd],zd (U xr) (U HD) (by decide) rfl⟩
  | 1,Z =>
   obtain rfl:=ya Z
   have g0:f 0 = I w.heap.size 0:=X 0 (yd G 0 rfl)
   clear G X xh
   rw [if_pos (by rfl)];unfold Oper.wp;go_simp
   exact ⟨upd f 1 (H uw),by simp [upd,g0],zd (U xr) (U HD) (by decide) rfl⟩
  | 2,Z | 8,Z =>
   obtain rfl:=ya Z
   clear G X xh
   rw [if_pos (by rfl)];unfold Oper.wp;go_simp
   exact ⟨upd f _ (.slice (some (J b off)) l.length E),by simp [upd],zd (U xr) (U HD) (by decide) rfl⟩
  | 3,Z | 9,Z =>
   obtain rfl:=ya Z
   clear G X xh
   rw [if_pos (by rfl)];unfold Oper.wp;go_simp
   exact ⟨upd f _ (H i),by simp [upd],zd (U xr) (U HD) (by decide) rfl⟩
  | 4,Z =>
   obtain rfl:=ya Z
   have g2:f 2 = .slice (some (J b off)) l.length E:=X 2 (yd G 2 rfl)
   have g3:f 3 = H i:=X 3 (yd G 3 rfl)
   clear G X xh
   rw [if_pos (by rfl)];unfold Oper.wp;go_simp
   exact ⟨upd f 4 (I b (off + i * 6)),by simp [upd,g2,g3],zd (U xr) (U HD) (by decide) rfl⟩
  | 5,Z =>
   obtain rfl:=ya Z
   have g4:f 4 = I b (off + i * 6):=X 4 (yd G 4 rfl)
   clear G X xh
   rw [if_pos (by rfl)];unfold Oper.wp;go_simp
   exact ⟨upd f 5 (I b (off + i * 6)),by simp [upd,g4],zd (U xr) (U HD) (by decide) rfl⟩
  | 6,Z =>
   obtain rfl:=ya Z
   have g5:f 5 = I b (off + i * 6):=X 5 (yd G 5 rfl)
   clear G X xh
   rw [if_pos (by rfl)];unfold Oper.wp;go_simp
   exact ⟨upd f 6 (H uH),by simp [upd,g5],zd (U xr) (U HD) (by decide) rfl⟩
  | 7,Z =>
   obtain rfl:=ya Z
   clear G X xh
   rw [if_pos (by rfl)];unfold Oper.wp;go_simp
   exact ⟨upd f 7 (H q),by simp [upd],zd (U xr) (U HD) (by decide) rfl⟩
  | 10,Z =>
   obtain rfl:=ya Z
   have g8:f 8 = .slice (some (J b off)) l.length E:=X 8 (yd G 8 rfl)
   have g9:f 9 = H i:=X 9 (yd G 9 rfl)
   clear G X xh
   rw [if_pos (by rfl)];unfold Oper.wp;go_simp
   exact ⟨upd f 10 (I b (off + i * 6)),by simp [upd,g8,g9],zd (U xr) (U HD) (by decide) rfl⟩
  | 11,Z =>
   obtain rfl:=ya Z
   have qG:f 10 = I b (off + i * 6):=X 10 (yd G 10 rfl)
   clear G X xh
   rw [if_pos (by rfl)];unfold Oper.wp;go_simp
   exact ⟨upd f 11 (I b (off + i * 6 + 2)),by simp [upd,qG],zd (U xr) (U HD) (by decide) rfl⟩
  | 12,Z =>
   obtain rfl:=ya Z
   have vB:f 11 = I b (off + i * 6 + 2):=X 11 (yd G 11 rfl)
   clear G X xh
   rw [if_pos (by rfl)];unfold Oper.wp;go_simp
   exact ⟨upd f 12 (H xv),by simp [upd,vB],zd (U xr) (U HD) (by decide) rfl⟩
  | 13,Z =>
   obtain rfl:=ya Z
   have g1:f 1 = H uw:=X 1 (yd G 1 rfl)
   have g6:f 6 = H uH:=X 6 (yd G 6 rfl)
   have g7:f 7 = H q:=X 7 (yd G 7 rfl)
   have xX:f 12 = H xv:=X 12 (yd G 12 rfl)
   clear G X xh
   rw [if_pos (by rfl)];unfold Oper.wp;go_simp
   exact ⟨upd f 13 (.agg (yt 3 0 0 0 0 0 0 0 ⟨#[]⟩ uw uH q xv 0).toArray),by simp [upd,g1,g6,g7,xX],zd (U xr) (U HD) (by decide) rfl⟩
  | 14,Z =>
   obtain rfl:=ya Z
   have n15:=n15' (by omega)
   clear G X xh
   rw [if_pos (by rfl)];unfold Oper.wp;go_simp
   have xz:=dm V (D (yt 0 0 0 0 0 0 0 0 ⟨#[]⟩ 0 0 0 0 0).toArray 46)
   exact ⟨upd f 14 (I V.heap.size 0),by simp [upd],ai (U xr) (U HD) xz (by decide) (dh_grow xz) ⟨V.heap.size,rfl,(U xr).size,by rw [zf]; omega,zt V (yt 0 0 0 0 0 0 0 0 ⟨#[]⟩ 0 0 0 0 0) _,fun h=>absurd h n15⟩⟩
  | 15,Z =>
   obtain rfl:=ya Z
   have kC:f 13 = .agg (yt 3 0 0 0 0 0 0 0 ⟨#[]⟩ uw uH q xv 0).toArray:=X 13 (yd G 13 rfl)
   obtain ⟨c,jY,pg,kE,oh,-⟩:=X 14 (yd G 14 rfl)
   have HCT:=Y oh
   obtain ⟨y0,z20,n20⟩:=zc oh (j:=0) (by omega)
   obtain ⟨y1,z21,n21⟩:=zc oh (j:=1) (by omega)
   obtain ⟨y2,z22,n22⟩:=zc oh (j:=2) (by omega)
   obtain ⟨y3,z23,n23⟩:=zc oh (j:=3) (by omega)
   obtain ⟨y4,z24,n24⟩:=zc oh (j:=4) (by omega)
   obtain ⟨y5,z25,n25⟩:=zc oh (j:=5) (by omega)
   obtain ⟨y6,z26,n26⟩:=zc oh (j:=6) (by omega)
   obtain ⟨y7,z27,n27⟩:=zc oh (j:=7) (by omega)
   obtain ⟨y8,z28,n28⟩:=zc oh (j:=8) (by omega)
   obtain ⟨y9,z29,n29⟩:=zc oh (j:=9) (by omega)
   obtain ⟨y10,z30,n30⟩:=zc oh (j:=10) (by omega)
   obtain ⟨y11,z31,n31⟩:=zc oh (j:=11) (by omega)
   obtain ⟨y12,z32,n32⟩:=zc oh (j:=12) (by omega)
   obtain ⟨y13,z33,n33⟩:=zc oh (j:=13) (by omega)
   have hsf:=sfl
   clear G X xh oh
   rw [if_pos (by rfl)];unfold Oper.wp;go_simp
   refine ⟨upd f 15 M,by simp [upd,kC,jY],rgx_last (zm c pg (yt 3 0 0 0 0 0 0 0 ⟨#[]⟩ uw uH q xv 0) 0 V (U xr)) (U HD) xu (fun j R hxj h=>dh_last j R h (fun hj14=>?_)) trivial⟩
   subst hj14
   refine ⟨c,jY,pg,by rw [zZ]; exact kE,yZ (U HCT) _ _ _,fun _=>yV V c 0 _ (fun j R=>U HCT j R)⟩
  | n + 16,Z=>simp at Z
end Go.Proofs.YtbakanofkghmiaaGreat
