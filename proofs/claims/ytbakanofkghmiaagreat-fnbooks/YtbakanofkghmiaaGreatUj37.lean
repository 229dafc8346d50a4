/-
  A taker trades with the order at a place, by the model: proved by walking the function.
-/
import Derived.Test.YtbakanofkghmiaaGreatUj36
set_option linter.unusedVariables false
set_option maxHeartbeats 6400000
set_option maxRecDepth 100000
namespace Go.Proofs.YtbakanofkghmiaaGreat
open Go.RowKit
structure R8 (v ta ea:Value) (V0 V1 V2:World) (x:List Bool) (f:Nat→Value) (W:World):Prop where
 f0:x[0]? = some true→f 0 = v
 f1:x[1]? = some true→f 1 = ta
 f2:x[2]? = some true→f 2 = ea
 f3:x[3]? = some true→f 3 = v
 f5:x[5]? = some true→f 5 = ea
 s0:x[4]? = some false→W = V0
 s1:x[4]? = some true→x[5]? = some false→W = V1
 s2:x[4]? = some true→x[5]? = some true→W = V2
def R8A (qt:(Nat→Value)→Act) (v ta ea:Value) (V0 V1 V2:World) (x:List Bool) (xj:Act) (W:World):Prop:=∃ f,xj = qt f∧R8 v ta ea V0 V1 V2 x f W
section
variable {v ta ea:Value} {V0 V1 V2:World} {x:List Bool} {f:Nat→Value} {W:World}
theorem r8_val (h:R8 v ta ea V0 V1 V2 x f W) (i:Nat) (u:Value) (hi:i < 4) (h0:i = 0→u = v) (G:i = 1→u = ta) (D:i = 2→u = ea) (h3:i = 3→u = v):R8 v ta ea V0 V1 V2 (x.set i true) (upd f i u) W:=by
 have pO:∀ j (y:Value),(x[j]? = some true→f j = y)→(i = j→u = y)→(x.set i true)[j]? = some true→upd f i u j = y:=by
  intro j y hf hu hx
  by_cases e:i = j
  ·subst e; rw [zn]; exact hu rfl
  ·rw [zp _ _ (fun e'=>e e'.symm)]; rw [gq e] at hx; exact hf hx
 refine ⟨pO 0 v h.f0 h0,pO 1 ta h.f1 G,pO 2 ea h.f2 D,pO 3 v h.f3 h3,pO 5 ea h.f5 (by omega),?_,?_,?_⟩ <;> rw [gq (show i ≠ 4 by omega)]
 ·exact h.s0
 ·rw [gq (show i ≠ 5 by omega)]; exact h.s1
 ·rw [gq (show i ≠ 5 by omega)]; exact h.s2
theorem r8_4 (h:R8 v ta ea V0 V1 V2 x f W) (h4:x[4]? = some false) (h5:x[5]? = some false):R8 v ta ea V0 V1 V2 (x.set 4 true) f V1:=by
 refine ⟨?_,?_,?_,?_,?_,?_,?_,?_⟩
 ·rw [gq (by omega)]; exact h.f0
 ·rw [gq (by omega)]; exact h.f1
 ·rw [gq (by omega)]; exact h.f2
 ·rw [gq (by omega)]; exact h.f3
 ·rw [gq (by omega)]; exact h.f5
 ·intro e; rw [gqs h4] at e; cases e
 ·exact fun _ _=>rfl
 ·intro _ e; rw [gq (by omega),h5] at e; cases e
theorem r8_5 (h:R8 v ta ea V0 V1 V2 x f W) (h4:x[4]? = some true) (h5:x[5]? = some false):R8 v ta ea V0 V1 V2 (x.set 5 true) (upd f 5 ea) V2:=by
 refine ⟨?_,?_,?_,?_,?_,?_,?_,?_⟩
 ·rw [gq (by omega),zp _ _ (by omega)]; exact h.f0
 ·rw [gq (by omega),zp _ _ (by omega)]; exact h.f1
 ·rw [gq (by omega),zp _ _ (by omega)]; exact h.f2
 ·rw [gq (by omega),zp _ _ (by omega)]; exact h.f3
 ·intro _; exact zn _ _ _
 ·intro e; rw [gq (by omega),h4] at e; cases e
 ·intro _ e; rw [gqs h5] at e; cases e
 ·exact fun _ _=>rfl
end
theorem df {B b:Nat} {v:Value} {l:List Od} (O:b < B):∀ (vs:List Value) (o:Nat) (W:World),ORow W B v l→ORow (W.setCells b o vs) B v l
 | [],_,_,h=>h
 | u :: us,o,W,h=>by rw [World.setCells]; exact df O us (o + 1) _ (bE h O o u)
theorem dX {W:World} {b o p k:Nat} {cs vs:List Value} (h:W.rangeAt b o cs) (O:p ≠ b):(W.setCells p k vs).rangeAt b o cs:=fun j u K =>
 (World.cell?_setCells_out p vs k W (J b (o + j)) (fun e=>absurd e.symm O)).trans (h j u K)
theorem hit_same {l:List Od} {i:Nat} {o:Od} {q:Int} (h:o.left - q = 0):(l.set i { o with left:=o.left - q }).take i ++ (l.set i { o with left:=o.left - q }).drop (i + 1) = aB l i o q:=by
 have:o.left = q:=by omega
 rw [aB,if_pos this,List.take_set_of_le hb,List.drop_set_of_lt (by omega)]
theorem hit_less {l:List Od} {i:Nat} {o:Od} {q:Int} (h:o.left - q ≠ 0):l.set i { o with left:=o.left - q } = aB l i o q:=by
 have:o.left ≠ q:=by omega
 rw [aB,if_neg this]
def DH (S b off i n A:Nat) (uz uL q xv:Int) (base:Nat) (p:Prop) (W:World):Nat→Value→Prop
 | 0,v=>v = I S 0
 | 1,v=>v = H uz
 | 2,v=>v = .slice (some (J b off)) n A
 | 3,v=>v = H i
 | 4,v=>v = I b (off + i * 6)
 | 5,v=>v = I b (off + i * 6)
 | 6,v=>v = H uL
 | 7,v=>v = H q
 | 8,v=>v = .slice (some (J b off)) n A
 | 9,v=>v = H i
 | 10,v=>v = I b (off + i * 6)
 | 11,v=>v = I b (off + i * 6 + 2)
 | 12,v=>v = H xv
 | 13,v=>v = .agg (yt 3 0 0 0 0 0 0 0 ⟨#[]⟩ uz uL q xv 0).toArray
 | 14,v=>∃ c,v = I c 0∧base ≤ c∧c < W.heap.size∧W.there c 0 14∧(p→W.rangeAt c 0 (yt 3 0 0 0 0 0 0 0 ⟨#[]⟩ uz uL q xv 0))
 | _,_=>True
theorem dh_grow {S b off i n A:Nat} {uz uL q xv:Int} {base:Nat} {p:Prop} {V V':World} (O:ym V V'):∀ j v,DH S b off i n A uz uL q xv base p V j v→DH S b off i n A uz uL q xv base p V' j v:=by
 intro j v h
 match j with
 | 0 | 1 | 2 | 3 | 4 | 5 | 6 | 7 | 8 | 9 | 10 | 11 | 12 | 13=>exact h
 | 14=>obtain ⟨c,G,D,h3,h4,h5⟩:=h; exact ⟨c,G,D,yH h3 O.size,ze h4 O h3,fun hp=>zb (h5 hp) O h3⟩
 | j + 15=>trivial
theorem dh_last {S b off i n A:Nat} {uz uL q xv:Int} {base:Nat} {V V':World} {v:Value}:∀ j,j ≠ 15→DH S b off i n A uz uL q xv base False V j v→(j = 14→DH S b off i n A uz uL q xv base True V' 14 v)→DH S b off i n A uz uL q xv base True V' j v:=by
 intro j K h jk
 match j with
 | 0 | 1 | 2 | 3 | 4 | 5 | 6 | 7 | 8 | 9 | 10 | 11 | 12 | 13=>exact h
 | 14=>exact jk rfl
 | j + 15=>trivial
theorem hit_mid {V w1:World} {v1:Value} {l:List Od} (xA:l ≠ []) (hl:l.length ≤ 1000) (h6:w1.ownsRow V.heap.size 49 6 v1 (0 + l.length) ([] ++ l.flatMap Od.vs)) (h7:(V.alloc (N #[] 49)).grownBy w1 (Value.slice (some (J V.heap.size 0)) 0 0).ownBlock) :
  ∃ g cp,v1 = .slice (some (J g 0)) l.length cp∧l.length ≤ cp∧V.heap.size ≤ g∧g < w1.heap.size∧ORow w1 V.heap.size v1 l∧ym V w1:=by
 have Z:ORow w1 V.heap.size v1 l:=by
  show w1.ownsRow _ _ _ _ l.length _
  simpa using h6
 obtain ⟨g,cp,e,G,D,h3⟩:=dn Z xA
 exact ⟨g,cp,e,G,D,h3,Z,(eB _ _).grown h7 (by rw [zf]; omega) (fun k hk=>by simp [Value.ownBlock] at hk; omega)⟩
theorem row_here {W:World} {B g n cp i:Nat} {l:List Od} {o:Od} (h:ORow W B (.slice (some (J g 0)) n cp) l) (hl:l.length ≤ 1000) (hi:l[i]? = some o):W.rangeAt g (i * 6) o.vs∧∀ j,j < 6→W.frozen? (J g (i * 6 + j)) = false:=by
 obtain ⟨a',c',e,_,hc⟩:=zR h (by omega)
 obtain ⟨b',ux,e2,_,hc⟩:=hc (by rintro rfl; simp at hi)
 rw [e2] at e
 simp only [Value.slice.injEq,Option.some.injEq,Addr.mk.injEq,and_true] at e
 obtain ⟨⟨rfl,rfl⟩,-⟩:=e
 refine ⟨by simpa using hc i o hi,fun j K=>?_⟩
 rcases h.2 with ⟨G,_⟩ | ⟨g',pq,xp,G,_,h3,h4,_,h5,_⟩
 ·cases G
 ·simp only [Value.slice.injEq,Option.some.injEq,Addr.mk.injEq,and_true] at G
  obtain ⟨rfl,-⟩:=G
  have hil:=(yE.1 hi).1
  have:=(cC h3 hb (i * 6 + j) (by rw [h5]; omega)).2
  rwa [Nat.zero_add] at this
theorem range_left {W:World} {S g k:Nat} {a0 a1 a2 a3 a4 a5 x y:Value} (h:W.rangeAt S 0 [a0,a1,a2,a3,a4,a5]) (hg:g ≠ S):((W.setCell (J g k) x).setCell (J S 3) y).rangeAt S 0 [a0,a1,a2,y,a4,a5]:=by
 have Z:∀ j,j ≠ 3→((W.setCell (J g k) x).setCell (J S 3) y).cell? (J S j) = W.cell? (J S j):=fun j K=>(yJ _ _ _ _ (zQ (fun e=>K e.symm))).trans (yJ _ _ _ _ (fun e=>hg (congrArg Addr.block e)))
 intro j u K
 rw [Nat.zero_add]
 match j,K with
 | 0,K=>cases K; exact (Z 0 (by omega)).trans (h 0 _ rfl)
 | 1,K=>cases K; exact (Z 1 (by omega)).trans (h 1 _ rfl)
 | 2,K=>cases K; exact (Z 2 (by omega)).trans (h 2 _ rfl)
 | 3,K=>cases K; exact yK _ _ _ ((yJ _ _ _ _ (fun e=>hg (congrArg Addr.block e))).trans (h 3 _ rfl))
 | 4,K=>cases K; exact (Z 4 (by omega)).trans (h 4 _ rfl)
 | 5,K=>cases K; exact (Z 5 (by omega)).trans (h 5 _ rfl)
 | j + 6,K=>simp at K
theorem range_far {W:World} {b o p k:Nat} {cs:List Value} {x:Value} (h:W.rangeAt b o cs) (O:p ≠ b):(W.setCell (J p k) x).rangeAt b o cs:=fun j u K =>
 (yJ _ _ _ _ (fun e=>O (congrArg Addr.block e))).trans (h j u K)
theorem l04Hit_any (v:Value) (l:List Od) (t o:Od) (i:Nat) (w:World) (hr:RdR Od.vs 6 w v l) (hn:l.length ≤ 1000) (ol:l[i]? = some o) (ht0:0 ≤ t.left) (ht1:t.left ≤ 1000000) (ho0:0 ≤ o.left) (vZ:o.left ≤ 1000000) :
  Calls Tryz.prog 136 #[v,.agg (yu t.id t.side t.ticks t.left t.life t.tag).toArray,H i] w fun e w'=>∃ v',e = .returned (.tuple #[v',.agg (Od.vs { t with left:=t.left - min t.left o.left }).toArray,.agg (Ev.vs (trE t.id o.id (min t.left o.left) o.ticks)).toArray])∧ORow w' w.heap.size v' (aB l i o (min t.left o.left))∧ym w w':=by
 obtain ⟨i0,uE,uF,uK,uV⟩:=info_parts Tryz.infoOrder
 have hil:=(yE.1 ol).1
 have xA:l ≠ []:=by rintro rfl; simp at ol
 have HNE:=Y xA
 obtain ⟨a,A,rfl,xC,hc⟩:=hr
 obtain ⟨b,off,rfl,O,X⟩:=hc xA
 have HCL:=Y X
 have HIO:=Y ol
 obtain ⟨uz,un,xQ,xH,um,uR⟩:=t
 obtain ⟨uL,uT,xv,xF,uS,qa⟩:=o
 simp only at ht0 ht1 ho0 vZ ⊢
 generalize hq:min xH xF = q
 have hqa:0 ≤ q:=by omega
 have hqb:q ≤ xH:=by omega
 have hqc:q ≤ xF:=by omega
 have HQ:=Y hq
 clear X hc ol xA hq xC
 have xz:=zf w (N (yu uz un xQ xH um uR).toArray 49)
 have xZ:((w.alloc (N (yu uz un xQ xH um uR).toArray 49)).alloc (N (yu 0 0 0 0 0 ⟨#[]⟩).toArray 49)).heap.size = w.heap.size + 1 + 1:=by rw [zf,xz]
 have jr:(((w.alloc (N (yu uz un xQ xH um uR).toArray 49)).alloc (N (yu 0 0 0 0 0 ⟨#[]⟩).toArray 49)).alloc (N (yt 0 0 0 0 0 0 0 0 ⟨#[]⟩ 0 0 0 0 0).toArray 46)).heap.size = w.heap.size + 1 + 1 + 1:=by rw [zf,xZ]
 have r1:=zg w (yu uz un xQ xH um uR) 49
 have t1:=zt w (yu uz un xQ xH um uR) 49
 have t2:=zt (w.alloc (N (yu uz un xQ xH um uR).toArray 49)) (yu 0 0 0 0 0 ⟨#[]⟩) 49
 have t3:=zt ((w.alloc (N (yu uz un xQ xH um uR).toArray 49)).alloc (N (yu 0 0 0 0 0 ⟨#[]⟩).toArray 49)) (yt 0 0 0 0 0 0 0 0 ⟨#[]⟩ 0 0 0 0 0) 46
 rw [xz] at t2
 rw [xZ] at t3
 have b1:=eB w (N (yu uz un xQ xH um uR).toArray 49)
 have b2:Below (w.heap.size + 1) (w.alloc (N (yu uz un xQ xH um uR).toArray 49)) ((w.alloc (N (yu uz un xQ xH um uR).toArray 49)).alloc (N (yu 0 0 0 0 0 ⟨#[]⟩).toArray 49)):=(Below.refl _ _).alloc (by omega) _
 have b3:Below (w.heap.size + 1 + 1) ((w.alloc (N (yu uz un xQ xH um uR).toArray 49)).alloc (N (yu 0 0 0 0 0 ⟨#[]⟩).toArray 49)) (((w.alloc (N (yu uz un xQ xH um uR).toArray 49)).alloc (N (yu 0 0 0 0 0 ⟨#[]⟩).toArray 49)).alloc (N (yt 0 0 0 0 0 0 0 0 ⟨#[]⟩ 0 0 0 0 0).toArray 46)):=(Below.refl _ _).alloc (by omega) _
 have b23:=b2.trans (b3.mono (by omega))
 have HX:Hid (World.rangeAt _ w.heap.size 0 _∧World.there _ w.heap.size 0 6∧World.there _ (w.heap.size + 1) 0 6∧World.there _ (w.heap.size + 1 + 1) 0 14):=⟨zb r1 b23 (by omega),ze t1 b23 (by omega),ze t2 b3 (by omega),t3⟩
 have xP:=Y (b1.trans (b23.mono (by omega)))
 have kz:=Y jr
 clear xz xZ jr r1 t1 t2 t3 b1 b2 b3 b23
 go_enter Tryz.func136,Tryz.ntmps136
 refine eF fun hj xq=>?_
 go_wp2_with fail
 refine U xq _ _ ?_
 clear xq
 generalize (((w.alloc (N (yu uz un xQ xH um uR).toArray 49)).alloc (N (yu 0 0 0 0 0 ⟨#[]⟩).toArray 49)).alloc (N (yt 0 0 0 0 0 0 0 0 ⟨#[]⟩ 0 0 0 0 0).toArray 46)) = xm at HX xP kz ⊢
 have HX:Hid (xm.rangeAt w.heap.size 0 (yu uz un xQ xH um uR)∧xm.there w.heap.size 0 6∧xm.there (w.heap.size + 1) 0 6∧xm.there (w.heap.size + 1 + 1) 0 14):=U HX
 have t3:xm.cell? (J w.heap.size 3) = some (H xH):=(U HX).1 3 _ rfl
 have HCX:Hid (∀ j c,l[j]? = some c→xm.rangeAt b (off + j * 6) c.vs):=fun j c K=>zb (U HCL j c K) (U xP) O
 have o3:xm.cell? (J b (off + i * 6 + 3)) = some (H xF):=U HCX i _ (U HIO) 3 _ rfl
 have hil':(i:Int) < l.length:=by omega
 have hii:(0:Int) ≤ i:=by omega
 refine eF fun hj xq=>?_
 go_wp2_with fail
 go_quiet (fail)
 refine U xq _ _ ?_
 clear xq
 have hif:(if xF < xH then xF else xH) = q:=by have:=U HQ; split <;> omega
 simp only [hif]
 have jw:Hid ((xm.drewN nq).rangeAt w.heap.size 0 (yu uz un xQ xH um uR)∧(xm.drewN nq).there w.heap.size 0 6∧(xm.drewN nq).there (w.heap.size + 1) 0 6∧(xm.drewN nq).there (w.heap.size + 1 + 1) 0 14):=U HX
 have xW:Hid (ym w (xm.drewN nq)):=cA (U xP) _
 have HS1:Hid ((xm.drewN nq).heap.size = w.heap.size + 1 + 1 + 1):=U kz
 have HC1:Hid (∀ j c,l[j]? = some c→(xm.drewN nq).rangeAt b (off + j * 6) c.vs):=U HCX
 clear t3 o3 hif HX xP kz HCX
 generalize xm.drewN nq = yb at jw xW HS1 HC1 ⊢
 refine eF fun hj xq=>?_
 refine zi (RG yb (fun f=>{ tmps:=#[.slice (some (J b off)) l.length A,.agg (yu uz un xQ xH um uR).toArray,H i,M,I w.heap.size 0,M,.slice none 0 0,I (w.heap.size + 1) 0,I (w.heap.size + 1 + 1) 0,H q,f 14,M,I w.heap.size 3,H xH,.slice (some (J b off)) l.length A,H i,I b (off + i * 6),I b (off + i * 6 + 3),H xF,H q,f 0,f 1,f 2,f 3,f 4,f 5,f 6,f 7,f 8,f 9,f 10,f 11,f 12,f 13,M,M,M,M,M,M,M,M,M,M,M,M,M,M,M,M,M,M,M,M,M,M,M,M,M,M,M,M,M,M,M,M,M,M,M,M],defers:=[] }) 15 (DH w.heap.size b off i l.length A uz uL q xv yb.heap.size)) (by kernel_rfl) ?_ ?_ ?_
 ·exact ⟨fun _=>M,rfl,⟨rfl,rfl,rfl,Nat.le_refl _,fun _ _=>rfl⟩,fun j K=>by rw [yG] at K; split at K <;> simp at K⟩
 ·rintro x xj V ⟨f,rfl,xh,hD⟩ hx xL
  have xn:=zW xL hx (acyc _ (by kernel_rfl))
  have k15:x[15]? = some true:=xn 15 (by simp)
  obtain ⟨c,e14,pz,kQ,-,hcr⟩:=hD 14 (xn 14 (by simp))
  have pT:=Y (hcr k15)
  refine U xq _ _ ?_
  clear xq
  have HS:=U HS1
  have hsv:=xh.size
  have HXV:Hid (V.rangeAt w.heap.size 0 (yu uz un xQ xH um uR)∧V.there w.heap.size 0 6∧V.there (w.heap.size + 1) 0 6∧V.there (w.heap.size + 1 + 1) 0 14):=⟨zb (U jw).1 xh (by omega),ze (U jw).2.1 xh (by omega),ze (U jw).2.2.1 xh (by omega),ze (U jw).2.2.2 xh (by omega)⟩
  have xr:=Y (eE (U xW) xh)
  have vn:b < yb.heap.size:=by omega
  have kh:Hid (∀ j c,l[j]? = some c→V.rangeAt b (off + j * 6) c.vs):=fun j c K=>zb (U HC1 j c K) xh vn
  have hcS:w.heap.size + 1 + 1 < c:=by omega
  simp only [e14]
  generalize f 0 = u20,f 1 = u21,f 2 = u22,f 3 = u23,f 4 = u24,f 5 = u25,f 6 = u26,f 7 = u27,f 8 = u28,f 9 = u29,f 10 = u30,f 11 = u31,f 12 = u32,f 13 = u33
  clear hD xn k15 e14 hcr xL hx xh pz jw xW HC1 HS1 HS
  have vL:=Y (World.ownsRow_made (base:=V.heap.size) (e:=49) (size:=6) V #[] 0 hb (by decide) rfl)
  have vf:Hid (∀ j u,(l.flatMap Od.vs)[j]? = some u→(V.alloc (N #[] 49)).cell? (((J b off):Addr).add j) = some u):=fun j u hu=>by
   have h:=cW (W:=V.alloc (N #[] 49)) (g:=b) (off:=off) (l:=l) (fun i c hi=>zb (U kh i c hi) ((Below.refl V.heap.size V).alloc hb _) (by omega)) 0 l.length j u (by simpa using hu)
   simpa using h
  refine eF fun hj xq=>?_
  go_wp2_with (at_builtin; go_must (refine wpList_append_own _ rfl _ _ 26 rfl V.heap.size 49 i0 _ 6 56 Tryz.underlying26 uE uF uK uV rfl (by decide) (.slice (some (J V.heap.size 0)) 0 0) 0 [] rfl (U vL) (J b off) l.length A (l.flatMap Od.vs) rfl (by rw [zK Od.len]) (U vf) (bi l) (by unfold maxLen; omega) (by omega) (by simp) ?_); intro v1 w1 vd qk _; obtain ⟨g,cp,rfl,vW,hVg,hgw,ho1',xU⟩:=hit_mid (U HNE) hn vd qk; have vl:=Y ho1'; have xW:=Y xU; clear vd qk ho1' xU)
  refine U xq _ _ ?_
  clear xq vf vL
  have jw:Hid (w1.rangeAt w.heap.size 0 (yu uz un xQ xH um uR)∧w1.there w.heap.size 0 6∧w1.there (w.heap.size + 1) 0 6∧w1.there (w.heap.size + 1 + 1) 0 14):=⟨zb (U HXV).1 (U xW) (by omega),ze (U HXV).2.1 (U xW) (by omega),ze (U HXV).2.2.1 (U xW) (by omega),ze (U HXV).2.2.2 (U xW) (by omega)⟩
  have pf:=Y (zb (U pT) (U xW) kQ)
  have xJ:=Y ((U xr).trans ((U xW).mono (U xr).size))
  have uU:=row_here (U vl) hn (U HIO)
  have c3:w1.cell? (J g (i * 6 + 3)) = some (H xF):=uU.1 3 _ rfl
  have f3:w1.frozen? (J g (i * 6 + 3)) = false:=uU.2 3 (by omega)
  have t3:w1.cell? (J w.heap.size 3) = some (H xH):=(U jw).1 3 _ rfl
  have s3:w1.frozen? (J w.heap.size 3) = false:=by have:=((U jw).2.1 3 (by omega)).2; rwa [Nat.zero_add] at this
  have hgS:g ≠ w.heap.size:=by omega
  have hSg:w.heap.size ≠ g:=by omega
  have qU:-9223372036854775808 ≤ xF - q:=by omega
  have hq2:xF - q ≤ 9223372036854775807:=by omega
  have hq3:-9223372036854775808 ≤ xH - q:=by omega
  have hq4:xH - q ≤ 9223372036854775807:=by omega
  clear uU
  refine eF fun hj xq=>?_
  go_wp2_with fail
  refine U xq _ _ ?_
  clear xq
  refine eF fun hj xq=>?_
  go_wp2_with fail
  refine U xq _ _ ?_
  clear xq
  have HZO:Hid (ORow ((w1.setCell (J g (i * 6 + 3)) (H (xF - q))).setCell (J w.heap.size 3) (H (xH - q))) V.heap.size (.slice (some (J g 0)) l.length cp) (l.set i ⟨uL,uT,xv,xF - q,uS,qa⟩)):=zw (oRow_left (U vl) rfl (U HIO) (xF - q)).1 (by simp [Value.ownBlock]; omega) _ _
  have HZT:=Y (range_left (k:=i * 6 + 3) (x:=H (xF - q)) (y:=H (xH - q)) (U jw).1 hgS)
  have HZE:=Y (range_far (p:=w.heap.size) (k:=3) (x:=H (xH - q)) (range_far (p:=g) (k:=i * 6 + 3) (x:=H (xF - q)) (U pf) (by omega)) (by omega))
  have HZ1:=Y (zD (c:=w.heap.size) (j:=3) (u:=H (xH - q)) (zD (c:=g) (j:=i * 6 + 3) (u:=H (xF - q)) (U jw).2.2.1))
  have HZ2:=Y (zD (c:=w.heap.size) (j:=3) (u:=H (xH - q)) (zD (c:=g) (j:=i * 6 + 3) (u:=H (xF - q)) (U jw).2.2.2))
  have HZB:=Y (((U xJ).setCell (p:=(J g (i * 6 + 3))) (by simp; omega) (H (xF - q))).setCell (p:=(J w.heap.size 3)) hb (H (xH - q)))
  have hgz:g < ((w1.setCell (J g (i * 6 + 3)) (H (xF - q))).setCell (J w.heap.size 3) (H (xH - q))).heap.size:=by simp [World.setCell]; exact hgw
  have z3:((w1.setCell (J g (i * 6 + 3)) (H (xF - q))).setCell (J w.heap.size 3) (H (xH - q))).cell? (J g (i * 6 + 3)) = some (H (xF - q)):=(yJ _ _ _ _ (fun e=>hSg (congrArg Addr.block e))).trans (yK _ _ _ c3)
  generalize ((w1.setCell (J g (i * 6 + 3)) (H (xF - q))).setCell (J w.heap.size 3) (H (xH - q))) = ho at HZO HZT HZE HZ1 HZ2 HZB hgz z3 ⊢
  clear c3 f3 t3 s3 jw pf xJ vl xW HXV pT xr kh hgw
  refine eF fun hj xq=>?_
  have HT:Hid (∀ (u0 u1 u2 u3 u5 u6 u9 u12 u13 u14 u15 u16 u17 u18 u19 u20 u21 u22 u23 u24 u25 u26 u27 u28 u29 u30 u31 u32 u33 u34 u35 u36 u37 u38 u39 u40 u41 u42 u43 u44 u45 u46 u47 u48 u49 u50 u51 u52 u53 u54 u55 u56 u57 u58 u59 u60 u61 u62 u63 u64 u65 u66 u67 u68 u69 v11:Value) (Z':World),ORow Z' (w.heap.size + 1 + 1 + 1) v11 (aB l i ⟨uL,uT,xv,xF,uS,qa⟩ q)→ym w Z'→Z'.rangeAt w.heap.size 0 (yu uz un xQ (xH - q) um uR)→Z'.there (w.heap.size + 1) 0 6→Z'.there (w.heap.size + 1 + 1) 0 14→Z'.rangeAt c 0 (yt 3 0 0 0 0 0 0 0 ⟨#[]⟩ uz uL q xv 0)→hj { tmps:=#[u0,u1,u2,u3,I w.heap.size 0,u5,u6,I (w.heap.size + 1) 0,I (w.heap.size + 1 + 1) 0,u9,I c 0,v11,u12,u13,u14,u15,u16,u17,u18,u19,u20,u21,u22,u23,u24,u25,u26,u27,u28,u29,u30,u31,u32,u33,u34,u35,u36,u37,u38,u39,u40,u41,u42,u43,u44,u45,u46,u47,u48,u49,u50,u51,u52,u53,u54,u55,u56,u57,u58,u59,u60,u61,u62,u63,u64,u65,u66,u67,u68,u69],defers:=[] } Z'):=by
   intro u0 u1 u2 u3 u5 u6 u9 u12 u13 u14 u15 u16 u17 u18 u19 u20 u21 u22 u23 u24 u25 u26 u27 u28 u29 u30 u31 u32 u33 u34 u35 u36 u37 u38 u39 u40 u41 u42 u43 u44 u45 u46 u47 u48 u49 u50 u51 u52 u53 u54 u55 u56 u57 u58 u59 u60 u61 u62 u63 u64 u65 u66 u67 u68 u69 v11 Z' hO hB hT G D hE
   refine U xq _ _ ?_
   have HO:=Y hO
   have HB:=Y hB
   have oh:=Y hT
   have HE:=Y hE
   have HH1:=Y G
   have HH2:=Y D
   clear hO hB hT hE G D xq
   obtain ⟨V0,oS⟩:∃ V:World,V = { Z' with drawn:=Z'.drawn + 1 }:=⟨_,rfl⟩
   have HO:Hid (ORow V0 (w.heap.size + 1 + 1 + 1) v11 (aB l i ⟨uL,uT,xv,xF,uS,qa⟩ q)):=by rw [oS]; exact U HO
   have HB:Hid (ym w V0):=by rw [oS]; exact (U HB).trans ⟨rfl,rfl,rfl,Nat.le_refl _,fun _ _=>rfl⟩
   have oh:Hid (V0.rangeAt w.heap.size 0 (yu uz un xQ (xH - q) um uR)):=by rw [oS]; exact U oh
   have HE:Hid (V0.rangeAt c 0 (yt 3 0 0 0 0 0 0 0 ⟨#[]⟩ uz uL q xv 0)):=by rw [oS]; exact U HE
   have HH1:Hid (V0.there (w.heap.size + 1) 0 6):=by rw [oS]; exact U HH1
   have HH2:Hid (V0.there (w.heap.size + 1 + 1) 0 14):=by rw [oS]; exact U HH2
   obtain ⟨V1,qi⟩:∃ V:World,V = V0.setCells (w.heap.size + 1) 0 (yu uz un xQ (xH - q) um uR):=⟨_,rfl⟩
   obtain ⟨V2,kC⟩:∃ V:World,V = V1.setCells (w.heap.size + 1 + 1) 0 (yt 3 0 0 0 0 0 0 0 ⟨#[]⟩ uz uL q xv 0):=⟨_,rfl⟩
   have vl:Hid (ORow V1 (w.heap.size + 1 + 1 + 1) v11 (aB l i ⟨uL,uT,xv,xF,uS,qa⟩ q)):=by rw [qi]; exact df (by omega) _ _ _ (U HO)
   have xW:Hid (ym w V1):=by rw [qi]; exact zm _ (by omega) _ _ _ (U HB)
   have jE:Hid (V1.rangeAt (w.heap.size + 1) 0 (yu uz un xQ (xH - q) um uR)):=by rw [qi]; exact yV V0 _ 0 _ (fun j K=>U HH1 j K)
   have pf:Hid (V1.rangeAt c 0 (yt 3 0 0 0 0 0 0 0 ⟨#[]⟩ uz uL q xv 0)):=by rw [qi]; exact dX (U HE) (by omega)
   have HH3:Hid (V1.there (w.heap.size + 1 + 1) 0 14):=by rw [qi]; exact yZ (U HH2) _ _ _
   have HOE:Hid (ORow V2 w.heap.size v11 (aB l i ⟨uL,uT,xv,xF,uS,qa⟩ q)):=by rw [kC]; exact bS (df (by omega) _ _ _ (U vl)) (by omega)
   have om:Hid (ym w V2):=by rw [kC]; exact zm _ (by omega) _ _ _ (U xW)
   have ow:Hid (V2.rangeAt (w.heap.size + 1 + 1) 0 (yt 3 0 0 0 0 0 0 0 ⟨#[]⟩ uz uL q xv 0)):=by rw [kC]; exact yV V1 _ 0 _ (fun j K=>U HH3 j K)
   have jE:Hid (V2.rangeAt (w.heap.size + 1) 0 (yu uz un xQ (xH - q) um uR)):=by rw [kC]; exact dX (U jE) (by omega)
   have HV0:=Y oS
   have HV1:=Y qi
   have pn:=Y kC
   clear oS qi kC HO HB vl xW
   go_wp2_with fail
   refine zi (R8A (fun f=>{ tmps:=#[u0,u1,u2,u3,I w.heap.size 0,u5,f 3,I (w.heap.size + 1) 0,I (w.heap.size + 1 + 1) 0,u9,I c 0,v11,u12,u13,u14,u15,u16,u17,u18,u19,u20,u21,u22,u23,u24,u25,u26,u27,u28,u29,u30,u31,u32,u33,u34,u35,u36,u37,u38,u39,u40,u41,u42,u43,u44,u45,u46,u47,u48,u49,u50,u51,u52,u53,u54,u55,u56,u57,u58,u59,u60,u61,u62,u63,u64,u65,u66,f 0,f 1,f 2],defers:=[] }) v11 (.agg (yu uz un xQ (xH - q) um uR).toArray) (.agg (yt 3 0 0 0 0 0 0 0 ⟨#[]⟩ uz uL q xv 0).toArray) V0 V1 V2) (by kernel_rfl) ?_ ?_ ?_
   ·exact ⟨fun j=>if j = 3 then u6 else if j = 0 then u67 else if j = 1 then u68 else u69,rfl,⟨by simp,by simp,by simp,by simp,by simp,fun _=>(U HV0).symm,by simp,by simp⟩⟩
   ·rintro x xj V' ⟨f,rfl,E⟩ hx xL
    have xn:=zO xL hx (by kernel_rfl)
    have e3:=E.f3 (xn 3 (by simp))
    have eW:=E.s2 (xn 4 (by simp)) (xn 5 (by simp))
    subst eW
    simp only [e3]
    clear E xn e3 xL hx
    obtain ⟨d0,d1,d2,d3,d4,d5⟩:=yA (U jE)
    obtain ⟨e0,e1,e2,e3,e4,e5,e6,e7,e8,e9,jR,e11,ak,e13⟩:=yD (U ow)
    go_wp2_with fail
    try simp only [Exit.inBlock,Exit.then]
    refine bodyPost_ret (by simp [results,Tryz.results136,go_sem,d0,d1,d2,d3,d4,d5,e0,e1,e2,e3,e4,e5,e6,e7,e8,e9,jR,e11,ak,e13]; try rfl) rfl ?_
    exact ⟨v11,rfl,U HOE,U om⟩
   ·rintro x xj V' i' o' ⟨f,rfl,E⟩ X hx Z xu Q
    have n5:i' < 5→x[5]? = some false:=fun xI=>by
     rcases bH hx (show 5 < 6 by omega) with h | h
     ·exact h
     ·have:=X 5 _ rfl h ⟨i',.phase⟩ (by rcases (by omega:i' = 0 ∨ i' = 1 ∨ i' = 2 ∨ i' = 3 ∨ i' = 4) with rfl | rfl | rfl | rfl | rfl <;> simp) rfl
      rw [xu] at this; cases this
    have n4:i' = 0 ∨ i' = 1 ∨ i' = 3→x[4]? = some false:=fun xI=>by
     rcases bH hx (show 4 < 6 by omega) with h | h
     ·exact h
     ·have:=X 4 _ rfl h ⟨i',.phase⟩ (by rcases xI with rfl | rfl | rfl <;> simp) rfl
      rw [xu] at this; cases this
    have xw:=Y E
    clear X
    match i',Z with
    | 0,Z =>
     obtain rfl:=ya Z
     clear Q E
     rw [if_pos (by rfl)];unfold Oper.wp;go_simp
     exact ⟨upd f 0 v11,by simp [upd],r8_val (U xw) 0 _ (by omega) (fun _=>rfl) (by omega) (by omega) (by omega)⟩
    | 1,Z =>
     obtain rfl:=ya Z
     have eV:=E.s0 (n4 (by omega))
     subst eV
     obtain ⟨c0,c1,c2,c3,c4,c5⟩:=yA (U oh)
     clear Q E
     rw [if_pos (by rfl)];unfold Oper.wp;go_simp
     exact ⟨upd f 1 (.agg (yu uz un xQ (xH - q) um uR).toArray),by simp [upd],r8_val (U xw) 1 _ (by omega) (by omega) (fun _=>rfl) (by omega) (by omega)⟩
    | 2,Z =>
     obtain rfl:=ya Z
     have vK:Hid (V'.rangeAt c 0 (yt 3 0 0 0 0 0 0 0 ⟨#[]⟩ uz uL q xv 0)):=by
      rcases bH hx (show 4 < 6 by omega) with h | h
      ·rw [E.s0 h]; exact U HE
      ·rw [E.s1 h (n5 (by omega))]; exact U pf
     obtain ⟨c0,c1,c2,c3,c4,c5,c6,c7,c8,c9,c10,c11,c12,c13⟩:=yD (U vK)
     clear Q E
     rw [if_pos (by rfl)];unfold Oper.wp;go_simp
     exact ⟨upd f 2 (.agg (yt 3 0 0 0 0 0 0 0 ⟨#[]⟩ uz uL q xv 0).toArray),by simp [upd],r8_val (U xw) 2 _ (by omega) (by omega) (by omega) (fun _=>rfl) (by omega)⟩
    | 3,Z =>
     obtain rfl:=ya Z
     have g0:=E.f0 (yd Q 0 rfl)
     clear Q E
     rw [if_pos (by rfl)];unfold Oper.wp;go_simp
     exact ⟨upd f 3 v11,by simp [upd,g0],r8_val (U xw) 3 _ (by omega) (by omega) (by omega) (by omega) (fun _=>rfl)⟩
    | 4,Z =>
     obtain rfl:=ya Z
     have g1:=E.f1 (yd Q 1 rfl)
     have eV:=E.s0 xu
     subst eV
     have xE:=U HH1
     obtain ⟨y0,z0,q0⟩:=zc xE (j:=0) (by omega)
     obtain ⟨y1,z1,q1⟩:=zc xE (j:=1) (by omega)
     obtain ⟨y2,z2,q2⟩:=zc xE (j:=2) (by omega)
     obtain ⟨y3,z3,q3⟩:=zc xE (j:=3) (by omega)
     obtain ⟨y4,z4,q4⟩:=zc xE (j:=4) (by omega)
     obtain ⟨y5,z5,q5⟩:=zc xE (j:=5) (by omega)
     have n5':=n5 (by omega)
     clear Q E xE
     rw [if_pos (by rfl)];unfold Oper.wp;go_simp
     have HR4:=r8_4 (U xw) xu n5'
     conv at HR4=>arg 9; rw [U HV1]
     exact ⟨f,by simp [g1],HR4⟩
    | 5,Z =>
     obtain rfl:=ya Z
     have g2:=E.f2 (yd Q 2 rfl)
     have k4:x[4]? = some true:=Q ⟨4,.chain⟩ (by simp) rfl
     have eV:=E.s1 k4 xu
     subst eV
     have xE:=U HH3
     have pY:=Y (r8_5 (U xw) k4 xu)
     clear xw E
     obtain ⟨y0,z0,q0⟩:=zc xE (j:=0) (by omega)
     obtain ⟨y1,z1,q1⟩:=zc xE (j:=1) (by omega)
     obtain ⟨y2,z2,q2⟩:=zc xE (j:=2) (by omega)
     obtain ⟨y3,z3,q3⟩:=zc xE (j:=3) (by omega)
     obtain ⟨y4,z4,q4⟩:=zc xE (j:=4) (by omega)
     obtain ⟨y5,z5,q5⟩:=zc xE (j:=5) (by omega)
     obtain ⟨y6,z6,q6⟩:=zc xE (j:=6) (by omega)
     obtain ⟨y7,z7,q7⟩:=zc xE (j:=7) (by omega)
     obtain ⟨y8,z8,q8⟩:=zc xE (j:=8) (by omega)
     obtain ⟨y9,z9,q9⟩:=zc xE (j:=9) (by omega)
     obtain ⟨az,z10,q10⟩:=zc xE (j:=10) (by omega)
     obtain ⟨y11,z11,q11⟩:=zc xE (j:=11) (by omega)
     obtain ⟨y12,z12,q12⟩:=zc xE (j:=12) (by omega)
     obtain ⟨y13,z13,q13⟩:=zc xE (j:=13) (by omega)
     have hsf:=sfl
     clear Q xE
     rw [if_pos (by rfl)];unfold Oper.wp;go_simp
     have HR6:=U pY
     conv at HR6=>arg 9; rw [U pn]
     exact ⟨upd f 5 (.agg (yt 3 0 0 0 0 0 0 0 ⟨#[]⟩ uz uL q xv 0).toArray),by simp [upd,g2],HR6⟩
    | i' + 6,Z=>simp at Z
  clear xq
  by_cases hz:xF - q = 0
  ·have b0:(xF - q == 0) = true:=by simpa using hz
   have HH:=Y (hit_same (l:=l) (i:=i) (o:=⟨uL,uT,xv,xF,uS,qa⟩) hz)
   clear hz
   generalize hleft:l.set i ⟨uL,uT,xv,xF - q,uS,qa⟩ = left at HZO HH
   have hll:left.length = l.length:=by rw [← hleft,List.length_set]
   clear hleft
   have HC7:Hid (∀ j c,left[j]? = some c→ho.rangeAt g (0 + j * 6) c.vs):=fun j c K=>by
    have:=(row_here (U HZO) (by omega) K).1
    rwa [Nat.zero_add]
   have hll1:l.length ≤ 1000:=hn
   have hicp:i ≤ cp:=by omega
   have oU:i + 1 ≤ l.length:=by omega
   have hi1':(i:Int) + 1 ≤ l.length:=by omega
   have hlcp:(l.length:Int) ≤ cp:=by omega
   have h0i:(0:Int) ≤ (i:Int) + 1:=by omega
   go_wp2_with fail
   clear z3
   refine dg (R7A (.slice (some (J g 0)) l.length cp) ho (C7 (.slice (some (J g 0)) l.length cp) g l.length cp i) (left.take i) (left.take i ++ left.drop (i + 1)) (fun f=>{ tmps:=#[.slice (some (J b off)) l.length A,.agg (yu uz un xQ xH um uR).toArray,H i,M,I w.heap.size 0,M,.slice none 0 0,I (w.heap.size + 1) 0,I (w.heap.size + 1 + 1) 0,H q,I c 0,f 10,I w.heap.size 3,H xH,.slice (some (J b off)) l.length A,H i,I b (off + i * 6),I b (off + i * 6 + 3),H xF,H q,u20,u21,u22,u23,u24,u25,u26,u27,u28,u29,u30,u31,u32,u33,.slice (some (J V.heap.size 0)) 0 0,.slice (some (J b off)) l.length A,.slice (some (J g 0)) l.length cp,.slice (some (J g 0)) l.length cp,H i,I g (i * 6),I g (i * 6 + 3),H xF,H q,H (xF - q),I g (i * 6),I g (i * 6 + 3),I w.heap.size 3,H xH,H q,H (xH - q),I w.heap.size 3,.slice (some (J g 0)) l.length cp,H i,I g (i * 6),I g (i * 6 + 3),H (xF - q),.bool true,f 0,f 1,f 2,f 3,f 4,f 5,f 6,f 7,f 8,f 9,M,M,M],defers:=[] })) (by kernel_rfl) ?_ ?_ ?_
   ·exact ⟨fun j=>if j = 10 then .slice (some (J g 0)) l.length cp else M,rfl,⟨⟨rfl,rfl,rfl,Nat.le_refl _,fun _ _=>rfl⟩,fun j K=>by rw [yG] at K; split at K <;> simp at K,fun _=>rfl,by simp,by simp,by simp,by simp,by simp,by simp,by simp⟩⟩
   ·rintro x xj V' ⟨f,rfl,E⟩ hx xL
    have xn:=zW xL hx (acyc _ (by kernel_rfl))
    have k9:x[9]? = some true:=xn 9 (by simp)
    have k10:x[10]? = some true:=xn 10 (by simp)
    have HO9:=Y (E.m9 k9)
    have jR:f 10 = f 9:=E.m10 k10
    have xr:=Y E.bel
    simp only [jR]
    clear E xn k9 k10 jR xL hx
    have qV:=(U HZB).size
    refine U HT _ _ _ _ _ _ _ _ _ _ _ _ _ _ _ _ _ _ _ _ _ _ _ _ _ _ _ _ _ _ _ _ _ _ _ _ _ _ _ _ _ _ _ _ _ _ _ _ _ _ _ _ _ _ _ _ _ _ _ _ _ _ _ _ _ _ _ (by rw [← U HH]; exact bS (U HO9) (by omega)) ((U HZB).trans ((U xr).mono qV)) (zb (U HZT) (U xr) (by omega)) (ze (U HZ1) (U xr) (by omega)) (ze (U HZ2) (U xr) (by omega)) (zb (U HZE) (U xr) (by omega))
   ·rintro x xj V i' o' ⟨f,rfl,E⟩ hx Z xu Q
    have qu:=Y E
    have pP:i' < 10→x[10]? = some false:=fun xI=>by
     have uY:10 < x.length:=by rw [hx]; simp
     cases O:x[10]
     ·rw [yF uY,O]
     ·have:=E.o10 (by rw [yF uY,O]) i' xI
      rw [xu] at this; cases this
    match i',Z with
    | 0,Z =>
     obtain rfl:=ya Z
     clear E Q
     rw [if_pos (by rfl)];unfold Oper.wp;go_simp
     exact ⟨upd f 0 (.slice (some (J V.heap.size 0)) 0 0),by simp [upd],r7_0 (U qu) xu (fun _=>trivial)⟩
    | 1,Z =>
     obtain rfl:=ya Z
     have s5:f 10 = .slice (some (J g 0)) l.length cp:=E.s5 (pP (by omega))
     clear E Q
     rw [if_pos (by rfl)];unfold Oper.wp;go_simp
     exact ⟨upd f 1 (.slice (some (J g 0)) l.length cp),by simp [upd,s5],bc (U qu) 1 _ rfl (by decide) (by decide) (by decide) (by decide)⟩
    | 2,Z =>
     obtain rfl:=ya Z
     clear E Q
     rw [if_pos (by rfl)];unfold Oper.wp;go_simp
     exact ⟨upd f 2 (H i),by simp [upd],bc (U qu) 2 _ rfl (by decide) (by decide) (by decide) (by decide)⟩
    | 3,Z =>
     obtain rfl:=ya Z
     have g1:C7 (.slice (some (J g 0)) l.length cp) g l.length cp i 1 (f 1):=E.c 1 (yd Q 1 rfl)
     have g2:C7 (.slice (some (J g 0)) l.length cp) g l.length cp i 2 (f 2):=E.c 2 (yd Q 2 rfl)
     simp only [C7] at g1 g2
     clear E Q
     rw [if_pos (by rfl)];unfold Oper.wp;go_simp
     exact ⟨upd f 3 (.slice (some (J g 0)) i cp),by simp [upd,g1,g2],bc (U qu) 3 _ rfl (by decide) (by decide) (by decide) (by decide)⟩
    | 4,Z =>
     obtain rfl:=ya Z
     have g3:C7 (.slice (some (J g 0)) l.length cp) g l.length cp i 3 (f 3):=E.c 3 (yd Q 3 rfl)
     have k0:x[0]? = some true:=Q ⟨0,.data⟩ (by simp) rfl
     have kh:Hid (∀ j c,left[j]? = some c→V.rangeAt g (0 + j * 6) c.vs):=fun j c K=>zb (U HC7 j c K) E.bel hgz
     simp only [C7] at g3
     clear E Q
     rw [if_pos (by rfl)]
     refine wp_append_own V (.tmp 57) (.tmp 60) 26 rfl ho.heap.size 49 i0 _ 6 56 Tryz.underlying26 uE uF uK uV rfl (by decide) (f 0) 0 [] rfl ((U qu).m0 k0 xu) (J g 0) i cp ((left.take i).flatMap Od.vs) g3 (by rw [zK Od.len,List.length_take]; congr 1; omega) (by simpa using cW (W:=V) (g:=g) (off:=0) (l:=left) (U kh) 0 i) (bi _) (by unfold maxLen; omega) (by omega) (U qu).bel.size ?_
     intro v' w' xN uc _
     refine ⟨upd f 4 v',rfl,r7_4 (U qu) k0 xu (fun _=>trivial) ?_ uc⟩
     have xC:(left.take i).length = 0 + i:=by rw [List.length_take]; omega
     show w'.ownsRow _ _ _ _ (left.take i).length _
     rw [xC]; simpa using xN
    | 5,Z =>
     obtain rfl:=ya Z
     have s5:f 10 = .slice (some (J g 0)) l.length cp:=E.s5 (pP (by omega))
     clear E Q
     rw [if_pos (by rfl)];unfold Oper.wp;go_simp
     exact ⟨upd f 5 (.slice (some (J g 0)) l.length cp),by simp [upd,s5],bc (U qu) 5 _ rfl (by decide) (by decide) (by decide) (by decide)⟩
    | 6,Z =>
     obtain rfl:=ya Z
     clear E Q
     rw [if_pos (by rfl)];unfold Oper.wp;go_simp
     exact ⟨upd f 6 (H i),by simp [upd],bc (U qu) 6 _ rfl (by decide) (by decide) (by decide) (by decide)⟩
    | 7,Z =>
     obtain rfl:=ya Z
     have g6:C7 (.slice (some (J g 0)) l.length cp) g l.length cp i 6 (f 6):=E.c 6 (yd Q 6 rfl)
     simp only [C7] at g6
     have hwr:IntKind.i64.wrap ((i:Int) + 1) = (i:Int) + 1:=by rw [IntKind.wrap_i64]; omega
     clear E Q
     rw [if_pos (by rfl)];unfold Oper.wp;go_simp
     exact ⟨upd f 7 (H ((i:Int) + 1)),by simp [upd,g6],bc (U qu) 7 _ rfl (by decide) (by decide) (by decide) (by decide)⟩
    | 8,Z =>
     obtain rfl:=ya Z
     have g5:C7 (.slice (some (J g 0)) l.length cp) g l.length cp i 5 (f 5):=E.c 5 (yd Q 5 rfl)
     have g7:C7 (.slice (some (J g 0)) l.length cp) g l.length cp i 7 (f 7):=E.c 7 (yd Q 7 rfl)
     simp only [C7] at g5 g7
     clear E Q
     by_cases hcp:cp = i + 1
     ·subst hcp
      rw [if_pos (by rfl)];unfold Oper.wp;go_simp
      exact ⟨upd f 8 (.slice (some (J g 0)) (l.length - (i + 1)) 0),by simp [upd,g5,g7]; omega,bc (U qu) 8 _ ⟨_,_,rfl,fun h=>by omega⟩ (by decide) (by decide) (by decide) (by decide)⟩
     ·rw [if_pos (by rfl)];unfold Oper.wp;go_simp
      exact ⟨upd f 8 (.slice (some (J g ((i + 1) * 6))) (l.length - (i + 1)) (cp - (i + 1))),by simp [upd,g5,g7],bc (U qu) 8 _ ⟨_,_,rfl,fun h=>rfl⟩ (by decide) (by decide) (by decide) (by decide)⟩
    | 9,Z =>
     obtain rfl:=ya Z
     have g8:C7 (.slice (some (J g 0)) l.length cp) g l.length cp i 8 (f 8):=E.c 8 (yd Q 8 rfl)
     have k4:x[4]? = some true:=Q ⟨4,.data⟩ (by simp) rfl
     have kh:Hid (∀ j c,left[j]? = some c→V.rangeAt g (0 + j * 6) c.vs):=fun j c K=>zb (U HC7 j c K) E.bel hgz
     obtain ⟨ad8,c8,g8,had⟩:=g8
     clear E Q
     have hsrc8:∀ j u,((left.drop (i + 1)).flatMap Od.vs)[j]? = some u→V.cell? (ad8.add j) = some u:=by
      intro j u hu
      by_cases xI:i + 1 < l.length
      ·rw [had xI]
       have:=cW (W:=V) (g:=g) (off:=0) (l:=left) (U kh) (i + 1) (l.length - (i + 1)) j u (by rw [yX (by simp [hll])]; exact hu)
       simpa using this
      ·rw [yY (by omega)] at hu; simp at hu
     rw [if_pos (by rfl)]
     refine wp_append_own V (.tmp 61) (.tmp 65) 26 rfl ho.heap.size 49 i0 _ 6 56 Tryz.underlying26 uE uF uK uV rfl (by decide) (f 4) (left.take i).length ((left.take i).flatMap Od.vs) rfl ((U qu).m4 k4 xu) ad8 (l.length - (i + 1)) c8 ((left.drop (i + 1)).flatMap Od.vs) g8 (by rw [zK Od.len,List.length_drop,hll]) hsrc8 (bi _) (by unfold maxLen; rw [List.length_take]; omega) (by rw [List.length_take]; omega) (U qu).bel.size ?_
     intro v' w' xN uc _
     refine ⟨upd f 9 v',rfl,r7_9 (U qu) k4 xu (fun _=>trivial) ?_ uc⟩
     show w'.ownsRow _ _ _ _ (left.take i ++ left.drop (i + 1)).length _
     rw [yN,List.length_drop,hll,List.flatMap_append]
     exact xN
    | 10,Z =>
     obtain rfl:=ya Z
     have hA:∀ j,j < 10→x[j]? = some true:=fun j K=>Q ⟨j,.phase⟩ (by
      match j,K with
      | 0,_=>simp
      | 1,_=>simp
      | 2,_=>simp
      | 3,_=>simp
      | 4,_=>simp
      | 5,_=>simp
      | 6,_=>simp
      | 7,_=>simp
      | 8,_=>simp
      | 9,_=>simp
      | n + 10,h=>omega) rfl
     clear E Q
     rw [if_pos (by rfl)];unfold Oper.wp;go_simp
     exact ⟨upd f 10 (f 9),by simp [upd],r7_10 (U qu) hA xu (fun _=>trivial)⟩
    | n + 11,Z=>simp at Z
  ·have b0:(xF - q == 0) = false:=by simpa using hz
   have HH:=Y (hit_less (l:=l) (i:=i) (o:=⟨uL,uT,xv,xF,uS,qa⟩) hz)
   clear hz
   go_wp2_with fail
   refine U HT _ _ _ _ _ _ _ _ _ _ _ _ _ _ _ _ _ _ _ _ _ _ _ _ _ _ _ _ _ _ _ _ _ _ _ _ _ _ _ _ _ _ _ _ _ _ _ _ _ _ _ _ _ _ _ _ _ _ _ _ _ _ _ _ _ _ _ (by rw [← U HH]; exact bS (U HZO) (by omega)) (U HZB) (U HZT) (U HZ1) (U HZ2) (U HZE)
 ·rintro x xj V i' o' ⟨f,rfl,xh,hD⟩ X hx Z xu Q
  have n15':i' < 15→¬ x[15]? = some true:=fun xI vy=>by
   have uk:∀ j,j < 15→x[j]? = some true:=fun j K=>X 15 _ rfl vy ⟨j,.phase⟩ (by
    rcases (by omega:j = 0 ∨ j = 1 ∨ j = 2 ∨ j = 3 ∨ j = 4 ∨ j = 5 ∨ j = 6 ∨ j = 7 ∨ j = 8 ∨ j = 9 ∨ j = 10 ∨ j = 11 ∨ j = 12 ∨ j = 13 ∨ j = 14) with rfl | rfl | rfl | rfl | rfl | rfl | rfl | rfl | rfl | rfl | rfl | rfl | rfl | rfl | rfl <;> simp) rfl
   rw [uk i' xI] at xu; cases xu
  clear X
  have xr:=Y xh
  have HD:=Y hD
  have hS1:=U HS1
  have vn:b < yb.heap.size:=by omega
  have z0:V.cell? (J w.heap.size 0) = some (H uz):=zb (U jw).1 xh (by omega) 0 _ rfl
  have o0:V.cell? (J b (off + i * 6)) = some (H uL):=zb (U HC1 i _ (U HIO)) xh vn 0 _ rfl
  have o2:V.cell? (J b (off + i * 6 + 2)) = some (H xv):=zb (U HC1 i _ (U HIO)) xh vn 2 _ rfl
  clear xq hS1
  match i',Z with
  | 0,Z =>
   obtain rfl:=ya Z
   clear Q hD xh
   rw [if_pos (by rfl)];unfold Oper.wp;go_simp
   exact ⟨upd f 0 (I w.heap.size 0),by simp [upd],zd (U xr) (U HD) (by decide) rfl⟩
  | 1,Z =>
   obtain rfl:=ya Z
   have g0:f 0 = I w.heap.size 0:=hD 0 (yd Q 0 rfl)
   clear Q hD xh
   rw [if_pos (by rfl)];unfold Oper.wp;go_simp
   exact ⟨upd f 1 (H uz),by simp [upd,g0],zd (U xr) (U HD) (by decide) rfl⟩
  | 2,Z | 8,Z =>
   obtain rfl:=ya Z
   clear Q hD xh
   rw [if_pos (by rfl)];unfold Oper.wp;go_simp
   exact ⟨upd f _ (.slice (some (J b off)) l.length A),by simp [upd],zd (U xr) (U HD) (by decide) rfl⟩
  | 3,Z | 9,Z =>
   obtain rfl:=ya Z
   clear Q hD xh
   rw [if_pos (by rfl)];unfold Oper.wp;go_simp
   exact ⟨upd f _ (H i),by simp [upd],zd (U xr) (U HD) (by decide) rfl⟩
  | 4,Z =>
   obtain rfl:=ya Z
   have g2:f 2 = .slice (some (J b off)) l.length A:=hD 2 (yd Q 2 rfl)
   have g3:f 3 = H i:=hD 3 (yd Q 3 rfl)
   clear Q hD xh
   rw [if_pos (by rfl)];unfold Oper.wp;go_simp
   exact ⟨upd f 4 (I b (off + i * 6)),by simp [upd,g2,g3],zd (U xr) (U HD) (by decide) rfl⟩
  | 5,Z =>
   obtain rfl:=ya Z
   have g4:f 4 = I b (off + i * 6):=hD 4 (yd Q 4 rfl)
   clear Q hD xh
   rw [if_pos (by rfl)];unfold Oper.wp;go_simp
   exact ⟨upd f 5 (I b (off + i * 6)),by simp [upd,g4],zd (U xr) (U HD) (by decide) rfl⟩
  | 6,Z =>
   obtain rfl:=ya Z
   have g5:f 5 = I b (off + i * 6):=hD 5 (yd Q 5 rfl)
   clear Q hD xh
   rw [if_pos (by rfl)];unfold Oper.wp;go_simp
   exact ⟨upd f 6 (H uL),by simp [upd,g5],zd (U xr) (U HD) (by decide) rfl⟩
  | 7,Z =>
   obtain rfl:=ya Z
   clear Q hD xh
   rw [if_pos (by rfl)];unfold Oper.wp;go_simp
   exact ⟨upd f 7 (H q),by simp [upd],zd (U xr) (U HD) (by decide) rfl⟩
  | 10,Z =>
   obtain rfl:=ya Z
   have g8:f 8 = .slice (some (J b off)) l.length A:=hD 8 (yd Q 8 rfl)
   have g9:f 9 = H i:=hD 9 (yd Q 9 rfl)
   clear Q hD xh
   rw [if_pos (by rfl)];unfold Oper.wp;go_simp
   exact ⟨upd f 10 (I b (off + i * 6)),by simp [upd,g8,g9],zd (U xr) (U HD) (by decide) rfl⟩
  | 11,Z =>
   obtain rfl:=ya Z
   have qy:f 10 = I b (off + i * 6):=hD 10 (yd Q 10 rfl)
   clear Q hD xh
   rw [if_pos (by rfl)];unfold Oper.wp;go_simp
   exact ⟨upd f 11 (I b (off + i * 6 + 2)),by simp [upd,qy],zd (U xr) (U HD) (by decide) rfl⟩
  | 12,Z =>
   obtain rfl:=ya Z
   have vI:f 11 = I b (off + i * 6 + 2):=hD 11 (yd Q 11 rfl)
   clear Q hD xh
   rw [if_pos (by rfl)];unfold Oper.wp;go_simp
   exact ⟨upd f 12 (H xv),by simp [upd,vI],zd (U xr) (U HD) (by decide) rfl⟩
  | 13,Z =>
   obtain rfl:=ya Z
   have g1:f 1 = H uz:=hD 1 (yd Q 1 rfl)
   have g6:f 6 = H uL:=hD 6 (yd Q 6 rfl)
   have g7:f 7 = H q:=hD 7 (yd Q 7 rfl)
   have ub:f 12 = H xv:=hD 12 (yd Q 12 rfl)
   clear Q hD xh
   rw [if_pos (by rfl)];unfold Oper.wp;go_simp
   exact ⟨upd f 13 (.agg (yt 3 0 0 0 0 0 0 0 ⟨#[]⟩ uz uL q xv 0).toArray),by simp [upd,g1,g6,g7,ub],zd (U xr) (U HD) (by decide) rfl⟩
  | 14,Z =>
   obtain rfl:=ya Z
   have n15:=n15' (by omega)
   clear Q hD xh
   rw [if_pos (by rfl)];unfold Oper.wp;go_simp
   have xy:=eB V (N (yt 0 0 0 0 0 0 0 0 ⟨#[]⟩ 0 0 0 0 0).toArray 46)
   exact ⟨upd f 14 (I V.heap.size 0),by simp [upd],aT (U xr) (U HD) xy (by decide) (dh_grow xy) ⟨V.heap.size,rfl,(U xr).size,by rw [zf]; omega,zt V (yt 0 0 0 0 0 0 0 0 ⟨#[]⟩ 0 0 0 0 0) _,fun h=>absurd h n15⟩⟩
  | 15,Z =>
   obtain rfl:=ya Z
   have kO:f 13 = .agg (yt 3 0 0 0 0 0 0 0 ⟨#[]⟩ uz uL q xv 0).toArray:=hD 13 (yd Q 13 rfl)
   obtain ⟨c,km,pz,kQ,oB,-⟩:=hD 14 (yd Q 14 rfl)
   have HCT:=Y oB
   obtain ⟨y0,z20,n20⟩:=zc oB (j:=0) (by omega)
   obtain ⟨y1,z21,n21⟩:=zc oB (j:=1) (by omega)
   obtain ⟨y2,z22,n22⟩:=zc oB (j:=2) (by omega)
   obtain ⟨y3,z23,n23⟩:=zc oB (j:=3) (by omega)
   obtain ⟨y4,z24,n24⟩:=zc oB (j:=4) (by omega)
   obtain ⟨y5,z25,n25⟩:=zc oB (j:=5) (by omega)
   obtain ⟨y6,z26,n26⟩:=zc oB (j:=6) (by omega)
   obtain ⟨y7,z27,n27⟩:=zc oB (j:=7) (by omega)
   obtain ⟨y8,z28,n28⟩:=zc oB (j:=8) (by omega)
   obtain ⟨y9,z29,n29⟩:=zc oB (j:=9) (by omega)
   obtain ⟨az,z30,n30⟩:=zc oB (j:=10) (by omega)
   obtain ⟨y11,z31,n31⟩:=zc oB (j:=11) (by omega)
   obtain ⟨y12,z32,n32⟩:=zc oB (j:=12) (by omega)
   obtain ⟨y13,z33,n33⟩:=zc oB (j:=13) (by omega)
   have hsf:=sfl
   clear Q hD xh oB
   rw [if_pos (by rfl)];unfold Oper.wp;go_simp
   refine ⟨upd f 15 M,by simp [upd,kO,km],rgx_last (zm c pz (yt 3 0 0 0 0 0 0 0 ⟨#[]⟩ uz uL q xv 0) 0 V (U xr)) (U HD) xu (fun j K hxj h=>dh_last j K h (fun hj14=>?_)) trivial⟩
   subst hj14
   refine ⟨c,km,pz,by rw [bK]; exact kQ,yZ (U HCT) _ _ _,fun _=>yV V c 0 _ (fun j K=>U HCT j K)⟩
  | n + 16,Z=>simp at Z
end Go.Proofs.YtbakanofkghmiaaGreat
