/-
  An order cancelled, by the model: proved by walking the method.
-/
import Derived.Test.YtnphbkgfjanmgaaGreatDoorAj35
set_option linter.unusedVariables false
set_option maxHeartbeats 6400000
set_option maxRecDepth 100000
namespace Go.Proofs.YtnphbkgfjanmgaaGreatDoor
open Go.RowKit
theorem ms_list {cp B:Nat} {W:World} {vl vY vd va:Value} {g:Gr} {t:Od} {kd n0:Int} {dy l0 l':List Od} (h:MS cp B W vl vd va g t kd n0 dy l0) (Z:ORow W B vY l') (hq:g.bg = 0→n0 = g.nx∧l0 = l'∧vd = .slice none 0 0):MS cp B (W.setCell (D cp 1) vY) vY vd va { g with l:=l' } t kd n0 dy l0 :=
 ⟨bH h.box (by show 1 < 13; decide),bN Z (cQ Z h.typ (by decide)) 1 vY,dQ (us:=[vY]) (o:=1) h.days h.nd,dQ (us:=[vY]) (o:=1) h.ahd (fun xA b' off n c e=>by have:=h.na xA b' off n c e; have:=h.hO; omega),h.sla,eB [vY] 1 W h.typ,h.hO,hq,h.ndc,h.na⟩
theorem take_6 {cp B:Nat} {vl vd va:Value} {g:Gr} {t:Od} {kd n0:Int} {dy l0:List Od} (ck L ct V cq ci:Int) (O:Nat) (cg:ByteArray) (id xj qty xk xi:Int) (w:World) (h:MS cp B w vl vd va g t kd n0 dy l0) (hi:GI g) (hm:MR g t kd dy) (he:okE ⟨6,⟨ck,L,ct,V,cq,ci,O,cg⟩,id,xj,qty,xk,xi⟩ = true) (hr:zG g ⟨6,⟨ck,L,ct,V,cq,ci,O,cg⟩,id,xj,qty,xk,xi⟩ = 0):Calls Tryz.prog 52 #[J cp 0,.agg (yw 6 ck L ct V cq ci O cg id xj qty xk xi).toArray] w fun x w'=>TakE cp B va n0 l0 g t kd dy ⟨6,⟨ck,L,ct,V,cq,ci,O,cg⟩,id,xj,qty,xk,xi⟩ w x w':=by
 have hsf:=sfl
 have hO:=h.lt
 have qe:=h.base
 have qM:Hid (∀ w' vY vk,Below B w w'→MS cp B w' vY vk va (br g ⟨6,⟨ck,L,ct,V,cq,ci,O,cg⟩,id,xj,qty,xk,xi⟩) (tkM g t ⟨6,⟨ck,L,ct,V,cq,ci,O,cg⟩,id,xj,qty,xk,xi⟩) (kdM kd ⟨6,⟨ck,L,ct,V,cq,ci,O,cg⟩,id,xj,qty,xk,xi⟩) n0 (dyM g dy ⟨6,⟨ck,L,ct,V,cq,ci,O,cg⟩,id,xj,qty,xk,xi⟩) l0→TakE cp B va n0 l0 g t kd dy ⟨6,⟨ck,L,ct,V,cq,ci,O,cg⟩,id,xj,qty,xk,xi⟩ w (.returned (.tuple #[])) w'):=fun w' vY vk N Y=>⟨rfl,N,vY,vk,Y⟩
 obtain ⟨h0,k,o,uP,vf,-,hqo⟩:=rule6 (e:=⟨6,⟨ck,L,ct,V,cq,ci,O,cg⟩,id,xj,qty,xk,xi⟩) rfl hr
 simp only at uP hqo
 have uh:Hid (br g ⟨6,⟨ck,L,ct,V,cq,ci,O,cg⟩,id,xj,qty,xk,xi⟩ = { g with l:=g.l.take k ++ g.l.drop (k + 1),bg:=6 }):=by show _ = _; rw [step6 rfl]; simp only [begG,if_pos h0,dx uP vf]; rw [bu,if_pos hqo.symm]
 have uz:Hid (tkM g t ⟨6,⟨ck,L,ct,V,cq,ci,O,cg⟩,id,xj,qty,xk,xi⟩ = t∧kdM kd ⟨6,⟨ck,L,ct,V,cq,ci,O,cg⟩,id,xj,qty,xk,xi⟩ = kd∧dyM g dy ⟨6,⟨ck,L,ct,V,cq,ci,O,cg⟩,id,xj,qty,xk,xi⟩ = dy):=⟨rfl,rfl,rfl⟩
 have xA:g.l ≠ []:=by intro h; rw [h] at vf; simp at vf
 have pt:=(yH.1 vf).1
 obtain ⟨gb,cap,rfl,ut,hBg,hgw⟩:=du h.row xA
 have jt:=hi.len
 have jC:=H uP
 clear h0 uP vf hqo
 generalize TakE cp B va n0 l0 g t kd dy ⟨6,⟨ck,L,ct,V,cq,ci,O,cg⟩,id,xj,qty,xk,xi⟩ w = C at qM ⊢
 obtain ⟨xC,HX⟩:=gw w (yw 6 ck L ct V cq ci O cg id xj qty xk xi) 52
 have HM:=H (zx h xC)
 have HB:=H (xC.mono qe)
 clear h xC hi hm he hr
 go_enter Tryz.func52,Tryz.ntmps52
 refine gv fun hR HK=>?_
 go_wp2_with fail
 refine U HK _ _ ?_
 clear HK
 generalize (w.alloc (A (yw 6 ck L ct V cq ci O cg id xj qty xk xi).toArray 52)) = W1 at HX HM HB ⊢
 have c9:=R (U HM).box 9 rfl
 have q9:=zd (U HM).box 9 (by show 9 < 13; decide)
 have xw:Hid (Below B w (World.setCells W1 cp 9 [.bool true])):=zN (U HB) yb (U HM) 9 _
 have xR:Hid (MS cp B (World.setCells W1 cp 9 [.bool true]) (.slice (some (D gb 0)) g.l.length cap) vd va { g with bg:=6 } t kd n0 dy l0):=cE (U HM) 9 [.bool true] (by simp) rfl rfl (fun h=>absurd (show (6:Int) = 0 from h) (by decide))
 have xJ:Hid (Bx (World.setCells W1 cp 9 [.bool true]) w.heap.size (yw 6 ck L ct V cq ci O cg id xj qty xk xi)):=bx (U HX) (bY cp w.heap.size (by omega) _ 9 W1)
 clear HX HM HB
 refine gv fun hR HK=>?_
 go_wp2_with fail
 refine U HK _ _ ?_
 clear HK
 change Code.wp _ _ _ _ (World.setCells W1 cp 9 [.bool true])
 generalize World.setCells W1 cp 9 [.bool true] = hj at xw xR xJ ⊢
 have uQ:Hid (RdR Od.vs 6 hj (.slice (some (D gb 0)) g.l.length cap) g.l):=zI (U xR).row (yO jt (by decide))
 have e0:=R (U xJ) 0 rfl
 clear c9 q9
 go_wp2_with fail
 refine zn (RAA (fun f=>{ tmps:=#[J cp 0,.agg (yw 6 ck L ct V cq ci O cg id xj qty xk xi).toArray,M,J w.heap.size 0,M,J cp 0,J cp 0,J cp 9,J w.heap.size 0,I 6,.bool false,.bool false,M,M,M,M,M,M,M,M,M,M,M,M,M,M,M,M,M,M,M,M,M,M,M,.bool false,.bool false,M,M,M,M,M,M,M,M,M,M,M,M,M,M,M,M,M,M,M,M,M,M,M,M,M,M,.bool false,.bool false,M,M,M,M,M,M,M,M,M,M,M,M,M,M,M,M,M,M,M,.bool false,.bool false,M,M,M,M,.bool true,.bool true,f 0,f 1,f 2,f 3,f 4,f 5,f 6,f 7,f 8,f 9,f 10,f 11,f 12,f 13,f 14,M,M,M,M,M,M,M,M,M,M,M,M,M,M,M,M,M,M,M,M,M,M,M,M,M,M,M,M,M,M,M,M,M,M,M,M,M,M,M,M,M,M,M,M,M,M,M,M,M,M,M,M,M,M,M,M,M,M,M,M,M,M,M,M,M,M,M,M,M,M,M,M,M,M,M,M,M,M],defers:=[] }) (fun j v=>∀ u,([some (J cp 0),some (J cp 0),some (J cp 0),some (J cp 1),some (.slice (some (D gb 0)) g.l.length cap),some (J cp 0),some (J cp 0),some (J cp 1),some (.slice (some (D gb 0)) g.l.length cap),some (J w.heap.size 9),some (I id),some (I k),none,some (J cp 0),some (J cp 1),none]:List (Option Value))[j]? = some (some u)→v = u) 12 15 (D cp 1) (fun W v=>ORow W hj.heap.size v (g.l.take k ++ g.l.drop (k + 1))∧yp hj W) hj) (by kernel_rfl) ?_ ?_ ?_
 ·exact ⟨fun _=>M,rfl,⟨fun j X=>by rw [yJ] at X; split at X <;> simp at X,fun _=>⟨rfl,rfl,rfl,Nat.le_refl _,fun _ _=>rfl⟩,fun X=>by rw [yJ] at X; split at X <;> simp at X,fun X=>by rw [yJ] at X; split at X <;> simp at X⟩⟩
 ·rintro x gs h2 ⟨f,rfl,K⟩ hx xO
  have xq:=zP xO hx (acyc _ (by kernel_rfl))
  obtain ⟨W0,⟨Z,xC⟩,eY⟩:=K.z (xq 15 (by simp))
  have qk:=H (zx (U xR) xC)
  have xH:=H ((U xw).trans (xC.mono (U xR).base))
  have vz:=H (zU Z (U xR).base)
  clear K xq xO hx xC Z
  dsimp only
  generalize f 0 = v0,f 1 = v1,f 2 = v2,f 3 = v3,f 4 = v4,f 5 = v5,f 6 = v6,f 7 = v7,f 8 = v8,f 9 = v9,f 10 = v10,f 11 = v11
  generalize f 12 = v12 at *
  generalize f 13 = v13,f 14 = v14
  subst eY
  go_end0
  refine U qM _ v12 vd (zN (U xH) yb (U qk) 1 [v12]) ?_
  rw [U uh,(U uz).1,(U uz).2.1,(U uz).2.2]
  exact ms_list (U qk) (U vz) (fun h=>absurd (show (6:Int) = 0 from h) (by decide))
 ·rintro x gs cl i op ⟨f,rfl,K⟩ F hx Z xt E
  have xu:=H K
  have vw:i < 13→i ≠ 0→x[12]? = some false:=fun xI h0=>by
   rcases bS hx (show 12 < 16 by omega) with hq | uN
   ·exact hq
   ·exfalso
    have h4:=yh F 12 rfl uN 4 rfl
    have uU:=yh F 12 rfl uN 11 rfl
    have h3:=yh F 4 rfl h4 3 rfl
    have Y:=yh F 3 rfl h3 2 rfl
    have N:=yh F 2 rfl Y 1 rfl
    have h8:=yh F 11 rfl uU 8 rfl
    have uY:=yh F 11 rfl uU 10 rfl
    have h7:=yh F 8 rfl h8 7 rfl
    have h6:=yh F 7 rfl h7 6 rfl
    have h5:=yh F 6 rfl h6 5 rfl
    have h9:=yh F 10 rfl uY 9 rfl
    rcases (by omega:i = 1 ∨ i = 2 ∨ i = 3 ∨ i = 4 ∨ i = 5 ∨ i = 6 ∨ i = 7 ∨ i = 8 ∨ i = 9 ∨ i = 10 ∨ i = 11 ∨ i = 12) with rfl | rfl | rfl | rfl | rfl | rfl | rfl | rfl | rfl | rfl | rfl | rfl
    ·exact absurd (N.symm.trans xt) (by simp)
    ·exact absurd (Y.symm.trans xt) (by simp)
    ·exact absurd (h3.symm.trans xt) (by simp)
    ·exact absurd (h4.symm.trans xt) (by simp)
    ·exact absurd (h5.symm.trans xt) (by simp)
    ·exact absurd (h6.symm.trans xt) (by simp)
    ·exact absurd (h7.symm.trans xt) (by simp)
    ·exact absurd (h8.symm.trans xt) (by simp)
    ·exact absurd (h9.symm.trans xt) (by simp)
    ·exact absurd (uY.symm.trans xt) (by simp)
    ·exact absurd (uU.symm.trans xt) (by simp)
    ·exact absurd (uN.symm.trans xt) (by simp)
  have n15:x[12]? = some false→x[15]? = some false:=fun uN=>by
   rcases bS hx (show 15 < 16 by omega) with hq | vW
   ·exact hq
   ·exact absurd ((yh F 15 rfl vW 12 rfl).symm.trans uN) (by simp)
  have xm:i < 13→i ≠ 0→∀ (p:Addr) u,hj.cell? p = some u→cl.cell? p = some u:=fun h h0 p u hu=>((K.b (vw h h0)).cell (yL hj _ hu)).trans hu
  match i,Z with
  | 0,Z | 1,Z | 5,Z =>
   obtain rfl:=yc Z
   clear E K xm vw n15
   rw [if_pos (by rfl)];unfold Oper.wp;go_simp
   exact ⟨upd f _ (J cp 0),by simp [upd],bw (U xu) _ _ (yj rfl) (by decide) (by decide)⟩
  | 2,Z =>
   obtain rfl:=yc Z
   have g1:=K.c 1 (yf E 1 rfl) _ rfl
   clear E K xm vw n15
   rw [if_pos (by rfl)];unfold Oper.wp;go_simp
   exact ⟨upd f 2 (J cp 0),by simp [upd,g1],bw (U xu) 2 _ (yj rfl) (by decide) (by decide)⟩
  | 3,Z =>
   obtain rfl:=yc Z
   have g2:=K.c 2 (yf E 2 rfl) _ rfl
   clear E K xm vw n15
   rw [if_pos (by rfl)];unfold Oper.wp;go_simp
   exact ⟨upd f 3 (J cp 1),by simp [upd,g2],bw (U xu) 3 _ (yj rfl) (by decide) (by decide)⟩
  | 4,Z =>
   obtain rfl:=yc Z
   have g3:=K.c 3 (yf E 3 rfl) _ rfl
   have z:=xm (by omega) (by omega) (D cp 1) _ (R (U xR).box 1 rfl)
   clear E K xm vw n15
   rw [if_pos (by rfl)];unfold Oper.wp;go_simp
   exact ⟨upd f 4 (.slice (some (D gb 0)) g.l.length cap),by simp [upd,g3],bw (U xu) 4 _ (yj rfl) (by decide) (by decide)⟩
  | 6,Z =>
   obtain rfl:=yc Z
   have g5:=K.c 5 (yf E 5 rfl) _ rfl
   clear E K xm vw n15
   rw [if_pos (by rfl)];unfold Oper.wp;go_simp
   exact ⟨upd f 6 (J cp 0),by simp [upd,g5],bw (U xu) 6 _ (yj rfl) (by decide) (by decide)⟩
  | 7,Z =>
   obtain rfl:=yc Z
   have g6:=K.c 6 (yf E 6 rfl) _ rfl
   clear E K xm vw n15
   rw [if_pos (by rfl)];unfold Oper.wp;go_simp
   exact ⟨upd f 7 (J cp 1),by simp [upd,g6],bw (U xu) 7 _ (yj rfl) (by decide) (by decide)⟩
  | 8,Z =>
   obtain rfl:=yc Z
   have g7:=K.c 7 (yf E 7 rfl) _ rfl
   have z:=xm (by omega) (by omega) (D cp 1) _ (R (U xR).box 1 rfl)
   clear E K xm vw n15
   rw [if_pos (by rfl)];unfold Oper.wp;go_simp
   exact ⟨upd f 8 (.slice (some (D gb 0)) g.l.length cap),by simp [upd,g7],bw (U xu) 8 _ (yj rfl) (by decide) (by decide)⟩
  | 9,Z =>
   obtain rfl:=yc Z
   clear E K xm vw n15
   rw [if_pos (by rfl)];unfold Oper.wp;go_simp
   exact ⟨upd f 9 (J w.heap.size 9),by simp [upd],bw (U xu) 9 _ (yj rfl) (by decide) (by decide)⟩
  | 10,Z =>
   obtain rfl:=yc Z
   have g9:=K.c 9 (yf E 9 rfl) _ rfl
   have z:=xm (by omega) (by omega) (D w.heap.size 9) _ (R (U xJ) 9 rfl)
   clear E K xm vw n15
   rw [if_pos (by rfl)];unfold Oper.wp;go_simp
   exact ⟨upd f 10 (I id),by simp [upd,g9],bw (U xu) 10 _ (yj rfl) (by decide) (by decide)⟩
  | 11,Z =>
   obtain rfl:=yc Z
   have g8:=K.c 8 (yf E 8 rfl) _ rfl
   have qy:=K.c 10 (yf E 10 rfl) _ rfl
   have kC:=vw (by omega) (by omega)
   have qG:=n15 kC
   have qJ:=H (zi (U uQ) (K.b kC) yb)
   clear E K xm vw n15
   rw [if_pos (by rfl)];unfold Oper.wp;go_simp
   refine (dW _ g.l id cl (U qJ)).mono ?_
   rw [U jC]
   rintro e w4 ⟨rfl,xy⟩
   exact ⟨upd f 11 (I k),by simp [upd,g8,qy],bw (ra_grow (U xu) kC qG xy) 11 _ (yj rfl) (by decide) (by decide)⟩
  | 12,Z =>
   obtain rfl:=yc Z
   have g4:=K.c 4 (yf E 4 rfl) _ rfl
   have vI:=K.c 11 (yf E 11 rfl) _ rfl
   have qG:=n15 xt
   have vo:=K.b xt
   have qJ:=H (zi (U uQ) vo yb)
   have xE:=H vo
   clear E K xm vw n15 vo
   rw [if_pos (by rfl)];unfold Oper.wp;go_simp
   obtain ⟨a9,c9,e9,-,aY⟩:=U qJ
   obtain ⟨b9,o9,uR,oX,hcl9⟩:=aY xA
   rw [uR] at e9
   simp only [Value.slice.injEq,Option.some.injEq,Addr.mk.injEq,and_true,true_and] at e9
   obtain ⟨⟨rfl,rfl⟩,rfl⟩:=e9
   refine (l04Drop_any gb 0 cap g.l k cl hcl9 oX pt ut (yO jt (by decide))).mono ?_
   rintro e w4 ⟨v9,rfl,oe,xy⟩
   exact ⟨upd f 12 v9,by simp [upd,g4,vI],ra_app (U xu) xt qG (by decide) (fun u hu=>by cases hu) ⟨zU oe (U xE).size,(U xE).trans (xy.mono (U xE).size)⟩⟩
  | 13,Z =>
   obtain rfl:=yc Z
   have g0:=K.c 0 (yf E 0 rfl) _ rfl
   clear E K xm vw n15
   rw [if_pos (by rfl)];unfold Oper.wp;go_simp
   exact ⟨upd f 13 (J cp 0),by simp [upd,g0],bw (U xu) 13 _ (yj rfl) (by decide) (by decide)⟩
  | 14,Z =>
   obtain rfl:=yc Z
   have qP:=K.c 13 (yf E 13 rfl) _ rfl
   clear E K xm vw n15
   rw [if_pos (by rfl)];unfold Oper.wp;go_simp
   exact ⟨upd f 14 (J cp 1),by simp [upd,qP],bw (U xu) 14 _ (yj rfl) (by decide) (by decide)⟩
  | 15,Z =>
   obtain rfl:=yc Z
   have jo:=K.c 14 (yf E 14 rfl) _ rfl
   have kC:x[12]? = some true:=E ⟨12,.data⟩ (by simp) rfl
   obtain ⟨aD,vo⟩:=K.a kC xt
   have vK:=H (zx (U xR) vo)
   have y1:=R (U vK).box 1 rfl
   have q1:=zd (U vK).box 1 (by show 1 < 13; decide)
   obtain ⟨ga,gn,gc,ua⟩:∃ ga gn gc,f 12 = .slice ga gn gc:=by
    obtain ⟨ga,gc,ua⟩:=cA (zI aD (by simp; omega))
    exact ⟨ga,_,gc,ua⟩
   clear E K xm vw n15 aD vo
   rw [if_pos (by rfl)];unfold Oper.wp;go_simp
   refine ⟨f,by simp [jo,ua],?_⟩
   have:=ra_store (U xu) kC xt (by decide) (fun v u hu=>by cases hu)
   rw [ua] at this
   exact this
  | i + 16,Z=>simp at Z
def ancS (l:List Oper) (s:List Nat):List Nat:=s ++ s.flatMap fun i=>match l[i]? with
 | some o=>(o.after.toList.filter fun e=>Region.binds .any e).map fun e=>e.on
 | none=>[]
def ancN (l:List Oper):Nat→List Nat→List Nat
 | 0,s=>s
 | n + 1,s=>ancN l n (ancS l s).eraseDups
theorem ancS_true {l:List Oper} {x:List Bool} (hc:Closed l x) {s:List Nat} (hs:∀ i ∈ s,x[i]? = some true):∀ i ∈ ancS l s,x[i]? = some true:=by
 intro i hi
 rcases List.mem_append.1 hi with h | h
 ·exact hs i h
 ·obtain ⟨k,hk,hm⟩:=List.mem_flatMap.1 h
  split at hm
  ·next o Z =>
   obtain ⟨e,he,rfl⟩:=List.mem_map.1 hm
   obtain ⟨he1,he2⟩:=List.mem_filter.1 he
   exact hc k o Z (hs k hk) e (by simpa using he1) he2
  ·simp at hm
theorem ancN_true {l:List Oper} {x:List Bool} (hc:Closed l x):∀ (n:Nat) (s:List Nat),(∀ i ∈ s,x[i]? = some true)→∀ i ∈ ancN l n s,x[i]? = some true
 | 0,s,hs=>hs
 | n + 1,s,hs=>ancN_true hc n _ (fun i hi=>ancS_true hc hs i (List.mem_eraseDups.1 hi))
theorem zW {l:List Oper} {x:List Bool} (hc:Closed l x) (d i n:Nat) (hB:(ancN l d [n]).contains i = true) (hx:x.length = l.length) (hn:n < l.length) (hi:x[i]? = some false):x[n]? = some false:=by
 rcases bS hx hn with h | h
 ·exact h
 ·have:=ancN_true hc d [n] (by simpa using h) i (by simpa using hB)
  rw [hi] at this; cases this
section
variable {C:World→Nat→Value→Prop} {n:Nat} {hb:(Nat→Value)→World→Prop} {base W W':World} {x:List Bool} {f:Nat→Value}
end
structure R4 (C:Nat→Value→Prop) (p:Addr) (B0:World) (cs:List Od) (t:Od) (x:List Bool) (f:Nat→Value) (W:World):Prop where
 c:∀ j,x[j]? = some true→C j (f j)
 bel:x[15]? = some false→Below B0.heap.size B0 W
 m0:x[1]? = some true→x[6]? = some false→ORow W B0.heap.size (f 1) []
 m2:x[6]? = some true→x[12]? = some false→ORow W B0.heap.size (f 6) cs
 m4:x[11]? = some true→x[12]? = some false→∃ b,f 11 = .slice (some ⟨b,0,none⟩) 1 1∧b < W.heap.size∧W.rangeAt b 0 t.vs∧(x[1]? = some true→x[6]? = some false→(f 1).ownBlock ≠ some b)
 m5:x[12]? = some true→x[15]? = some false→ORow W B0.heap.size (f 12) (cs ++ [t])
 mz:x[15]? = some true→∃ W0,(ORow W0 B0.heap.size (f 12) (cs ++ [t])∧Below B0.heap.size B0 W0)∧W = W0.setCell p (f 12)
def R4A (xo:(Nat→Value)→Act) (C:Nat→Value→Prop) (p:Addr) (B0:World) (cs:List Od) (t:Od) (x:List Bool) (gs:Act) (W:World):Prop:=∃ f,gs = xo f∧R4 C p B0 cs t x f W
section
variable {C:Nat→Value→Prop} {p:Addr} {B0 W W':World} {cs:List Od} {t:Od} {x:List Bool} {f:Nat→Value}
theorem r4_grow (h:R4 C p B0 cs t x f W) (n:x[15]? = some false) (Q:yp W W'):R4 C p B0 cs t x f W' :=
 ⟨h.c,fun _=>(h.bel n).trans (Q.mono (h.bel n).size),fun a b=>zO (h.m0 a b) Q,fun a b=>zO (h.m2 a b) Q,fun a b=>by
  obtain ⟨b',N,Y,h4,h5⟩:=h.m4 a b
  exact ⟨b',N,yK Y Q.size,zc h4 Q Y,h5⟩,fun a b=>zO (h.m5 a b) Q,fun a=>by rw [n] at a; cases a⟩
theorem dd (h:R4 C p B0 cs t x f W) (i:Nat) (v:Value) (hv:C i v) (hi:i ≠ 1∧i ≠ 6∧i ≠ 11∧i ≠ 12∧i ≠ 15):R4 C p B0 cs t (x.set i true) (upd f i v) W:=by
 obtain ⟨N,h6,uU,uN,vW⟩:=hi
 refine ⟨zD h.c hv,?_,?_,?_,?_,?_,?_⟩ <;> simp only [gq N,gq h6,gq uU,gq uN,gq vW,zk f v N.symm,zk f v h6.symm,zk f v uU.symm,zk f v uN.symm]
 ·exact h.bel
 ·exact h.m0
 ·exact h.m2
 ·exact h.m4
 ·exact h.m5
 ·exact h.mz
theorem r4_1 (h:R4 C p B0 cs t x f W) (n:x[15]? = some false) (hc:∀ v,C 1 v):R4 C p B0 cs t (x.set 1 true) (upd f 1 (.slice (some (D W.heap.size 0)) 0 0)) (W.alloc (A #[] 78)):=by
 have hg:=r4_grow h n ((Below.refl W.heap.size W).alloc yb (A #[] 78))
 refine ⟨zD hg.c (hc _),fun _=>hg.bel n,?_,?_,?_,?_,?_⟩
 ·intro _ _; rw [zt]; exact World.ownsRow_made W #[] 0 (h.bel n).size (by decide) rfl
 ·rw [gq (by decide),gq (by decide),zk _ _ (by decide)]; exact hg.m2
 ·intro hh4 hh5
  rw [gq (by decide)] at hh4 hh5
  obtain ⟨b,N,Y,h4,h5⟩:=hg.m4 hh4 hh5
  obtain ⟨b',e1,e2,_⟩:=h.m4 hh4 hh5
  rw [N] at e1
  simp only [Value.slice.injEq,Option.some.injEq,Addr.mk.injEq,and_true] at e1
  subst e1
  refine ⟨b,by rw [zk _ _ (by decide)]; exact N,Y,h4,fun _ _ e=>?_⟩
  rw [zt] at e
  simp [Value.ownBlock] at e
  omega
 ·rw [gq (by decide),gq (by decide),zk _ _ (by decide)]; exact hg.m5
 ·intro e; rw [gq (by decide),n] at e; cases e
theorem r4_6 (h:R4 C p B0 cs t x f W) (n:x[15]? = some false) (hh0:x[1]? = some true) (hh2:x[6]? = some false) (hh5:x[12]? = some false) (hc:∀ v,C 6 v) {v':Value} (Z:ORow W' B0.heap.size v' cs) (hg:W.grownBy W' (f 1).ownBlock):R4 C p B0 cs t (x.set 6 true) (upd f 6 v') W':=by
 refine ⟨zD h.c (hc _),fun _=>(h.bel n).grown hg (h.bel n).size (fun k hk=>((h.m0 hh0 hh2).lt k hk).1),?_,?_,?_,?_,?_⟩
 ·intro _ e; rw [gqs hh2] at e; cases e
 ·intro _ _; rw [zt]; exact Z
 ·intro hh4 _
  rw [gq (by decide)] at hh4
  obtain ⟨b,N,Y,h4,h5⟩:=h.m4 hh4 hh5
  refine ⟨b,by rw [zk _ _ (by decide)]; exact N,yK Y hg.size,zy h4 hg Y (fun e=>h5 hh0 hh2 e.symm),fun _ e=>?_⟩
  rw [gqs hh2] at e; cases e
 ·intro e; rw [gq (by decide),hh5] at e; cases e
 ·intro e; rw [gq (by decide),n] at e; cases e
theorem r4_11 (h:R4 C p B0 cs t x f W) (n:x[15]? = some false) (hh4:x[11]? = some false) (hc:∀ v,C 11 v):R4 C p B0 cs t (x.set 11 true) (upd f 11 (.slice (some (D W.heap.size 0)) 1 1)) (W.alloc (Obj.cells t.vs.toArray 78)):=by
 have hg:=r4_grow h n ((Below.refl W.heap.size W).alloc yb (Obj.cells t.vs.toArray 78))
 refine ⟨zD hg.c (hc _),fun _=>hg.bel n,?_,?_,?_,?_,?_⟩
 ·rw [gq (by decide),gq (by decide),zk _ _ (by decide)]; exact hg.m0
 ·rw [gq (by decide),gq (by decide),zk _ _ (by decide)]; exact hg.m2
 ·intro _ _
  refine ⟨W.heap.size,zt _ _ _,by rw [zj]; omega,zo W t.vs _,fun hh0 hh2 e=>?_⟩
  rw [gq (by decide)] at hh0 hh2
  rw [zk _ _ (by decide)] at e
  have:=((h.m0 hh0 hh2).lt _ e).2
  omega
 ·rw [gq (by decide),gq (by decide),zk _ _ (by decide)]; exact hg.m5
 ·intro e; rw [gq (by decide),n] at e; cases e
theorem r4_12 (h:R4 C p B0 cs t x f W) (n:x[15]? = some false) (hh2:x[6]? = some true) (hh5:x[12]? = some false) (hc:∀ v,C 12 v) {v':Value} (Z:ORow W' B0.heap.size v' (cs ++ [t])) (hg:W.grownBy W' (f 6).ownBlock):R4 C p B0 cs t (x.set 12 true) (upd f 12 v') W':=by
 refine ⟨zD h.c (hc _),fun _=>(h.bel n).grown hg (h.bel n).size (fun k hk=>((h.m2 hh2 hh5).lt k hk).1),?_,?_,?_,?_,?_⟩
 ·intro _ e; rw [gq (by decide),hh2] at e; cases e
 ·intro _ e; rw [gqs hh5] at e; cases e
 ·intro _ e; rw [gqs hh5] at e; cases e
 ·intro _ _; rw [zt]; exact Z
 ·intro e; rw [gq (by decide),n] at e; cases e
theorem r4_15 (h:R4 C p B0 cs t x f W) (n:x[15]? = some false) (uN:x[12]? = some true) (h6:x[6]? = some true) (hc:∀ v,C 15 v):R4 C p B0 cs t (x.set 15 true) f (W.setCell p (f 12)):=by
 refine ⟨fun j X=>?_,?_,?_,?_,?_,?_,fun _=>⟨W,⟨h.m5 uN n,h.bel n⟩,rfl⟩⟩
 ·by_cases hjm:j = 15
  ·subst hjm; exact hc _
  ·rw [gq (fun e=>hjm e.symm)] at X; exact h.c j X
 ·intro e; rw [gqs n] at e; cases e
 ·intro _ e; rw [gq (by decide),h6] at e; cases e
 ·intro _ e; rw [gq (by decide),uN] at e; cases e
 ·intro _ e; rw [gq (by decide),uN] at e; cases e
 ·intro _ e; rw [gqs n] at e; cases e
end
theorem take_4 {cp B:Nat} {vl vd va:Value} {g:Gr} {t:Od} {kd n0:Int} {dy l0:List Od} (ck L ct V cq ci:Int) (O:Nat) (cg:ByteArray) (id xj qty xk xi:Int) (w:World) (h:MS cp B w vl vd va g t kd n0 dy l0) (hi:GI g) (hm:MR g t kd dy) (he:okE ⟨4,⟨ck,L,ct,V,cq,ci,O,cg⟩,id,xj,qty,xk,xi⟩ = true) (hr:zG g ⟨4,⟨ck,L,ct,V,cq,ci,O,cg⟩,id,xj,qty,xk,xi⟩ = 0):Calls Tryz.prog 52 #[J cp 0,.agg (yw 4 ck L ct V cq ci O cg id xj qty xk xi).toArray] w fun x w'=>TakE cp B va n0 l0 g t kd dy ⟨4,⟨ck,L,ct,V,cq,ci,O,cg⟩,id,xj,qty,xk,xi⟩ w x w':=by
 have hsf:=sfl
 have hO:=h.lt
 have qe:=h.base
 have qM:Hid (∀ w' vY vk,Below B w w'→MS cp B w' vY vk va (br g ⟨4,⟨ck,L,ct,V,cq,ci,O,cg⟩,id,xj,qty,xk,xi⟩) (tkM g t ⟨4,⟨ck,L,ct,V,cq,ci,O,cg⟩,id,xj,qty,xk,xi⟩) (kdM kd ⟨4,⟨ck,L,ct,V,cq,ci,O,cg⟩,id,xj,qty,xk,xi⟩) n0 (dyM g dy ⟨4,⟨ck,L,ct,V,cq,ci,O,cg⟩,id,xj,qty,xk,xi⟩) l0→TakE cp B va n0 l0 g t kd dy ⟨4,⟨ck,L,ct,V,cq,ci,O,cg⟩,id,xj,qty,xk,xi⟩ w (.returned (.tuple #[])) w'):=fun w' vY vk N Y=>⟨rfl,N,vY,vk,Y⟩
 obtain ⟨h0,jS⟩:=rule45 (e:=⟨4,⟨ck,L,ct,V,cq,ci,O,cg⟩,id,xj,qty,xk,xi⟩) (.inl rfl) hr
 have oj:t = g.tk:=hm.same jS
 have uh:Hid (br g ⟨4,⟨ck,L,ct,V,cq,ci,O,cg⟩,id,xj,qty,xk,xi⟩ = { g with l:=g.l ++ [t],tk:={ g.tk with left:=0 } }):=by show _ = _; rw [step4 rfl]; simp only [begG]; rw [if_neg (by omega),oj]
 have uz:Hid (tkM g t ⟨4,⟨ck,L,ct,V,cq,ci,O,cg⟩,id,xj,qty,xk,xi⟩ = zOd∧kdM kd ⟨4,⟨ck,L,ct,V,cq,ci,O,cg⟩,id,xj,qty,xk,xi⟩ = kd∧dyM g dy ⟨4,⟨ck,L,ct,V,cq,ci,O,cg⟩,id,xj,qty,xk,xi⟩ = dy):=⟨rfl,rfl,rfl⟩
 have hbn:(g.bg != 0) = true:=by simp [h0]
 have pU:Hid (g.bg ≠ 0):=by show _ ≠ _; omega
 have jt:=hi.len
 obtain ⟨la,lc,rfl⟩:=cA (zI h.row (yO jt (by decide)))
 obtain ⟨i0,vC,uK,uL,uZ⟩:=info_parts Tryz.infoOrder
 clear h0 jS oj
 generalize TakE cp B va n0 l0 g t kd dy ⟨4,⟨ck,L,ct,V,cq,ci,O,cg⟩,id,xj,qty,xk,xi⟩ w = C at qM ⊢
 obtain ⟨xC,HX⟩:=gw w (yw 4 ck L ct V cq ci O cg id xj qty xk xi) 52
 have HM:=H (zx h xC)
 have HB:=H (xC.mono qe)
 clear h xC hi hm he hr
 go_enter Tryz.func52,Tryz.ntmps52
 refine gv fun hR HK=>?_
 go_wp2_with fail
 refine U HK _ _ ?_
 clear HK
 generalize (w.alloc (A (yw 4 ck L ct V cq ci O cg id xj qty xk xi).toArray 52)) = W1 at HX HM HB ⊢
 have c9:=R (U HM).box 9 rfl
 have q9:=zd (U HM).box 9 (by show 9 < 13; decide)
 have xw:Hid (Below B w (World.setCells W1 cp 9 [.bool true])):=zN (U HB) yb (U HM) 9 _
 have xR:Hid (MS cp B (World.setCells W1 cp 9 [.bool true]) (.slice la g.l.length lc) vd va g t kd n0 dy l0):=cE (U HM) 9 [.bool true] (by simp) (by simp [msV,hbn]) rfl (fun h=>absurd h (U pU))
 have e0:(World.setCells W1 cp 9 [.bool true]).cell? (D w.heap.size 0) = some (I 4):=R (bx (U HX) (bY cp w.heap.size (by omega) _ 9 W1)) 0 rfl
 clear hbn HX HM HB
 refine gv fun hR HK=>?_
 go_wp2_with fail
 refine U HK _ _ ?_
 clear HK
 change Code.wp _ _ _ _ (World.setCells W1 cp 9 [.bool true])
 generalize World.setCells W1 cp 9 [.bool true] = hj at xw xR e0 ⊢
 clear c9 q9
 go_wp2_with fail
 refine zn (R4A (fun f=>{ tmps:=#[J cp 0,.agg (yw 4 ck L ct V cq ci O cg id xj qty xk xi).toArray,M,J w.heap.size 0,M,J cp 0,J cp 0,J cp 9,J w.heap.size 0,I 4,.bool false,.bool false,M,M,M,M,M,M,M,M,M,M,M,M,M,M,M,M,M,M,M,M,M,M,M,.bool false,.bool false,M,M,M,M,M,M,M,M,M,M,M,M,M,M,M,M,M,M,M,M,M,M,M,M,M,M,.bool true,.bool true,f 0,f 1,f 2,f 3,f 4,f 5,f 6,f 7,f 8,f 9,f 10,f 11,f 12,f 13,f 14,M,M,M,M,M,M,M,M,M,M,M,M,M,M,M,M,M,M,M,M,M,M,M,M,M,M,M,M,M,M,M,M,M,M,M,M,M,M,M,M,M,M,M,M,M,M,M,M,M,M,M,M,M,M,M,M,M,M,M,M,M,M,M,M,M,M,M,M,M,M,M,M,M,M,M,M,M,M,M,M,M,M,M,M,M,M,M,M,M,M,M,M,M,M,M,M,M,M,M,M,M,M,M,M,M],defers:=[] }) (fun j v=>∀ u,([some (J cp 0),none,some (J cp 0),some (J cp 0),some (J cp 1),some (.slice la g.l.length lc),none,some (J cp 0),some (J cp 0),some (J cp 2),some (.agg (yx t.id t.side t.ticks t.left t.life t.tag).toArray),none,none,some (J cp 0),some (J cp 1),none]:List (Option Value))[j]? = some (some u)→v = u) (D cp 1) hj g.l t) (by kernel_rfl) ?_ ?_ ?_
 ·have vN:∀ j,(List.replicate 16 false)[j]? = some true→False:=fun j X=>by rw [yJ] at X; split at X <;> simp at X
  exact ⟨fun _=>M,rfl,⟨fun j X=>(vN j X).elim,fun _=>⟨rfl,rfl,rfl,Nat.le_refl _,fun _ _=>rfl⟩,fun h=>(vN _ h).elim,fun h=>(vN _ h).elim,fun h=>(vN _ h).elim,fun h=>(vN _ h).elim,fun h=>(vN _ h).elim⟩⟩
 ·rintro x gs h2 ⟨f,rfl,K⟩ hx xO
  have xq:=zP xO hx (acyc _ (by kernel_rfl))
  obtain ⟨W0,⟨Z,xC⟩,eY⟩:=K.mz (xq 15 (by simp))
  have qk:=H (zx (U xR) xC)
  have xH:=H ((U xw).trans (xC.mono (U xR).base))
  have vz:=H (zU Z (U xR).base)
  clear K xq xO hx xC Z
  dsimp only
  generalize f 0 = v0,f 1 = v1,f 2 = v2,f 3 = v3,f 4 = v4,f 5 = v5,f 6 = v6,f 7 = v7,f 8 = v8,f 9 = v9,f 10 = v10,f 11 = v11
  generalize f 12 = v12 at *
  generalize f 13 = v13,f 14 = v14
  have vB:Hid (MS cp B (W0.setCell (D cp 1) v12) v12 vd va { g with l:=g.l ++ [t] } t kd n0 dy l0):=ms_list (U qk) (U vz) (fun h=>absurd h (U pU))
  have uk:Hid (Below B w (W0.setCell (D cp 1) v12)):=zN (U xH) yb (U qk) 1 [v12]
  rw [← eY] at vB uk
  clear eY qk xH vz
  have c2:=R (U vB).box 2 rfl
  have q2:=zd (U vB).box 2 (by show 2 < 13; decide)
  have c3:=R (U vB).box 3 rfl
  have q3:=zd (U vB).box 3 (by show 3 < 13; decide)
  have c4:=R (U vB).box 4 rfl
  have q4:=zd (U vB).box 4 (by show 4 < 13; decide)
  have c5:=R (U vB).box 5 rfl
  have q5:=zd (U vB).box 5 (by show 5 < 13; decide)
  have c6:=R (U vB).box 6 rfl
  have q6:=zd (U vB).box 6 (by show 6 < 13; decide)
  have c7:=R (U vB).box 7 rfl
  have q7:=zd (U vB).box 7 (by show 7 < 13; decide)
  go_wp2_with fail
  go_end0
  refine U qM _ v12 vd (zN (U uk) yb (U vB) 2 (yx 0 0 0 0 0 ⟨#[]⟩)) ?_
  rw [U uh,(U uz).1,(U uz).2.1,(U uz).2.2]
  exact cE (U vB) 2 (yx 0 0 0 0 0 ⟨#[]⟩) (by simp) rfl rfl (fun h=>absurd h (U pU))
 ·rintro x gs cl i op ⟨f,rfl,K⟩ F hx Z xt E
  have xu:=H K
  match i,Z with
  | 0,Z | 2,Z | 7,Z =>
   obtain rfl:=yc Z
   clear E K F
   rw [if_pos (by rfl)];unfold Oper.wp;go_simp
   exact ⟨upd f _ (J cp 0),by simp [upd],dd (U xu) _ _ (yj rfl) (by decide)⟩
  | 1,Z =>
   obtain rfl:=yc Z
   have qG:x[15]? = some false:=zW F 16 1 15 (by kernel_rfl) hx (by simp) xt
   clear E K F
   rw [if_pos (by rfl)];unfold Oper.wp;go_simp
   exact ⟨upd f 1 (.slice (some (D cl.heap.size 0)) 0 0),by simp [upd],r4_1 (U xu) qG (fun v u hu=>by cases hu)⟩
  | 3,Z =>
   obtain rfl:=yc Z
   have g2:=K.c 2 (yf E 2 rfl) _ rfl
   clear E K F
   rw [if_pos (by rfl)];unfold Oper.wp;go_simp
   exact ⟨upd f 3 (J cp 0),by simp [upd,g2],dd (U xu) 3 _ (yj rfl) (by decide)⟩
  | 4,Z =>
   obtain rfl:=yc Z
   have g3:=K.c 3 (yf E 3 rfl) _ rfl
   clear E K F
   rw [if_pos (by rfl)];unfold Oper.wp;go_simp
   exact ⟨upd f 4 (J cp 1),by simp [upd,g3],dd (U xu) 4 _ (yj rfl) (by decide)⟩
  | 5,Z =>
   obtain rfl:=yc Z
   have g4:=K.c 4 (yf E 4 rfl) _ rfl
   have qG:x[15]? = some false:=zW F 16 5 15 (by kernel_rfl) hx (by simp) xt
   have kj:=H (zx (U xR) (K.bel qG))
   have z1:=R (U kj).box 1 rfl
   clear E K F
   rw [if_pos (by rfl)];unfold Oper.wp;go_simp
   exact ⟨upd f 5 (.slice la g.l.length lc),by simp [upd,g4],dd (U xu) 5 _ (yj rfl) (by decide)⟩
  | 6,Z =>
   obtain rfl:=yc Z
   have qG:x[15]? = some false:=zW F 16 6 15 (by kernel_rfl) hx (by simp) xt
   have k1:x[1]? = some true:=E ⟨1,.data⟩ (by simp) rfl
   have g5:=K.c 5 (yf E 5 rfl) _ rfl
   have kC:x[12]? = some false:=zW F 16 6 12 (by kernel_rfl) hx (by simp) xt
   have HO0:=H (K.m0 k1 xt)
   have vo:=K.bel qG
   have HROW:=H (zO (U xR).row vo)
   have HRDV:Hid (∀ ad,la = some ad→∀ j u,(g.l.flatMap Od.vs)[j]? = some u→cl.cell? (ad.add j) = some u):=fun ad had=>by
    have h:=zI (U HROW) (yO jt (by decide))
    rw [had] at h
    exact rd_src h
   clear E K F
   rw [if_pos (by rfl)]
   rcases oRow_sl (U HROW) with h | ⟨ad,nn,cc,h⟩
   ·simp only [Value.slice.injEq] at h
    have hL:g.l = []:=List.length_eq_zero_iff.1 h.2.1
    refine fS (.tmp 66) (.tmp 70) 32 rfl hj.heap.size 78 i0 6 Tryz.underlying32 vC (f 1) 0 [] rfl (U HO0) (by show f 5 = _; rw [g5,h.1,h.2.1,h.2.2]) ?_
    exact ⟨upd f 6 (f 1),rfl,r4_6 (U xu) qG k1 xt kC (fun v u hu=>by cases hu) (by rw [hL]; exact U HO0) (yS _ _)⟩
   ·simp only [Value.slice.injEq] at h
    refine wp_append_own cl (.tmp 66) (.tmp 70) 32 rfl hj.heap.size 78 i0 _ 6 56 Tryz.underlying32 vC uK uL uZ rfl (by decide) (f 1) 0 [] rfl (U HO0) ad g.l.length lc (g.l.flatMap Od.vs) (by show f 5 = _; rw [g5,h.1]) (by rw [bJ Od.len]) (U HRDV ad h.1) (cX g.l) (by unfold maxLen; omega) (by omega) vo.size ?_
    intro v' w' xS um _
    refine ⟨upd f 6 v',rfl,r4_6 (U xu) qG k1 xt kC (fun v u hu=>by cases hu) ?_ um⟩
    show w'.ownsRow _ _ _ _ g.l.length _
    simpa using xS
  | 8,Z =>
   obtain rfl:=yc Z
   have g7:=K.c 7 (yf E 7 rfl) _ rfl
   clear E K F
   rw [if_pos (by rfl)];unfold Oper.wp;go_simp
   exact ⟨upd f 8 (J cp 0),by simp [upd,g7],dd (U xu) 8 _ (yj rfl) (by decide)⟩
  | 9,Z =>
   obtain rfl:=yc Z
   have g8:=K.c 8 (yf E 8 rfl) _ rfl
   clear E K F
   rw [if_pos (by rfl)];unfold Oper.wp;go_simp
   exact ⟨upd f 9 (J cp 2),by simp [upd,g8],dd (U xu) 9 _ (yj rfl) (by decide)⟩
  | 10,Z =>
   obtain rfl:=yc Z
   have g9:=K.c 9 (yf E 9 rfl) _ rfl
   have qG:x[15]? = some false:=zW F 16 10 15 (by kernel_rfl) hx (by simp) xt
   have kj:=H (zx (U xR) (K.bel qG))
   have z2:=R (U kj).box 2 rfl
   have z3:=R (U kj).box 3 rfl
   have z4:=R (U kj).box 4 rfl
   have z5:=R (U kj).box 5 rfl
   have z6:=R (U kj).box 6 rfl
   have z7:=R (U kj).box 7 rfl
   clear E K F
   rw [if_pos (by rfl)];unfold Oper.wp;go_simp
   exact ⟨upd f 10 (.agg (yx t.id t.side t.ticks t.left t.life t.tag).toArray),by simp [upd,g9],dd (U xu) 10 _ (yj rfl) (by decide)⟩
  | 11,Z =>
   obtain rfl:=yc Z
   have qy:=K.c 10 (yf E 10 rfl) _ rfl
   have qG:x[15]? = some false:=zW F 16 11 15 (by kernel_rfl) hx (by simp) xt
   clear E K F
   rw [if_pos (by rfl)];unfold Oper.wp;go_simp
   exact ⟨upd f 11 (.slice (some (D cl.heap.size 0)) 1 1),by simp [upd,qy],r4_11 (U xu) qG xt (fun v u hu=>by cases hu)⟩
  | 12,Z =>
   obtain rfl:=yc Z
   have qG:x[15]? = some false:=zW F 16 12 15 (by kernel_rfl) hx (by simp) xt
   have k6:x[6]? = some true:=E ⟨6,.data⟩ (by simp) rfl
   obtain ⟨b4,vI,ul,xQ,-⟩:=K.m4 (yf E 11 rfl) xt
   have qS:=H (K.m2 k6 xt)
   have vo:=K.bel qG
   have qY:Hid (∀ j u,t.vs[j]? = some u→cl.cell? (((D b4 0):Addr).add j) = some u):=fun j u hu=>by
    have:=xQ j u hu
    rw [Addr.add_mid]; exact this
   clear E K F xQ
   rw [if_pos (by rfl)]
   refine wp_append_own cl (.tmp 71) (.tmp 76) 32 rfl hj.heap.size 78 i0 _ 6 56 Tryz.underlying32 vC uK uL uZ rfl (by decide) (f 6) g.l.length (g.l.flatMap Od.vs) rfl (U qS) (D b4 0) 1 1 t.vs (by show f 11 = _; exact vI) rfl (U qY) (one_od t) (by unfold maxLen; omega) (by omega) vo.size ?_
   intro v' w' xS um _
   refine ⟨upd f 12 v',rfl,r4_12 (U xu) qG k6 xt (fun v u hu=>by cases hu) ?_ um⟩
   show w'.ownsRow _ _ _ _ (g.l ++ [t]).length _
   rw [yQ,List.flatMap_append]
   simpa using xS
  | 13,Z =>
   obtain rfl:=yc Z
   have g0:=K.c 0 (yf E 0 rfl) _ rfl
   clear E K F
   rw [if_pos (by rfl)];unfold Oper.wp;go_simp
   exact ⟨upd f 13 (J cp 0),by simp [upd,g0],dd (U xu) 13 _ (yj rfl) (by decide)⟩
  | 14,Z =>
   obtain rfl:=yc Z
   have qP:=K.c 13 (yf E 13 rfl) _ rfl
   clear E K F
   rw [if_pos (by rfl)];unfold Oper.wp;go_simp
   exact ⟨upd f 14 (J cp 1),by simp [upd,qP],dd (U xu) 14 _ (yj rfl) (by decide)⟩
  | 15,Z =>
   obtain rfl:=yc Z
   have jo:=K.c 14 (yf E 14 rfl) _ rfl
   have kC:x[12]? = some true:=E ⟨12,.data⟩ (by simp) rfl
   have k6:x[6]? = some true:=yh F 12 rfl kC 6 rfl
   have vK:=H (zx (U xR) (K.bel xt))
   have y1:=R (U vK).box 1 rfl
   have q1:=zd (U vK).box 1 (by show 1 < 13; decide)
   obtain ⟨ga,gc,ua⟩:=cA (zI (K.m5 kC xt) (by simp; omega))
   generalize (g.l ++ [t]).length = gn at ua
   clear E K F
   rw [if_pos (by rfl)];unfold Oper.wp;go_simp
   refine ⟨f,by simp [jo,ua],?_⟩
   have:=r4_15 (U xu) xt kC k6 (fun v u hu=>by cases hu)
   rw [ua] at this
   exact this
  | i + 16,Z=>simp at Z
end Go.Proofs.YtnphbkgfjanmgaaGreatDoor
