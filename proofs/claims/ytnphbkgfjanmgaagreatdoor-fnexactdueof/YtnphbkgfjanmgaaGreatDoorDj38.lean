/-
  An order cancelled, by the model: proved by walking the method.
-/
import Derived.Test.YtnphbkgfjanmgaaGreatDoorDj37
set_option linter.unusedVariables false
set_option maxHeartbeats 6400000
set_option maxRecDepth 100000
namespace Go.Proofs.YtnphbkgfjanmgaaGreatDoor
open Go.RowKit
theorem ms_list {cp B:Nat} {W:World} {vl vT vd va:Value} {g:Gr} {t:Od} {kd n0:Int} {dy l0 l':List Od} (h:MS cp B W vl vd va g t kd n0 dy l0) (Z:ORow W B vT l') (hq:g.bg = 0→n0 = g.nx∧l0 = l'∧vd = .slice none 0 0):MS cp B (W.setCell (Q cp 1) vT) vT vd va { g with l:=l' } t kd n0 dy l0 :=
 ⟨aX h.box (by show 1 < 13; decide),bd Z (bU Z h.typ (by decide)) 1 vT,cR (us:=[vT]) (o:=1) h.days h.nd,cR (us:=[vT]) (o:=1) h.ahd (fun xD b' off n c e=>by have:=h.na xD b' off n c e; have:=h.hO; omega),h.sla,dN [vT] 1 W h.typ,h.hO,hq,h.ndc,h.na⟩
theorem take_6 {cp B:Nat} {vl vd va:Value} {g:Gr} {t:Od} {kd n0:Int} {dy l0:List Od} (ck A ct F cq ci:Int) (O:Nat) (cg:ByteArray) (id xj qty xk xi:Int) (w:World) (h:MS cp B w vl vd va g t kd n0 dy l0) (hi:GI g) (hm:MR g t kd dy) (he:okE ⟨6,⟨ck,A,ct,F,cq,ci,O,cg⟩,id,xj,qty,xk,xi⟩ = true) (hr:zF g ⟨6,⟨ck,A,ct,F,cq,ci,O,cg⟩,id,xj,qty,xk,xi⟩ = 0):Calls Tryz.prog 52 #[J cp 0,.agg (yw 6 ck A ct F cq ci O cg id xj qty xk xi).toArray] w fun x w'=>TakE cp B va n0 l0 g t kd dy ⟨6,⟨ck,A,ct,F,cq,ci,O,cg⟩,id,xj,qty,xk,xi⟩ w x w':=by
 have hsf:=sfl
 have hO:=h.lt
 have vW:=h.base
 have qF:Hid (∀ w' vT vh,Below B w w'→MS cp B w' vT vh va (aM g ⟨6,⟨ck,A,ct,F,cq,ci,O,cg⟩,id,xj,qty,xk,xi⟩) (tkM g t ⟨6,⟨ck,A,ct,F,cq,ci,O,cg⟩,id,xj,qty,xk,xi⟩) (kdM kd ⟨6,⟨ck,A,ct,F,cq,ci,O,cg⟩,id,xj,qty,xk,xi⟩) n0 (dyM g dy ⟨6,⟨ck,A,ct,F,cq,ci,O,cg⟩,id,xj,qty,xk,xi⟩) l0→TakE cp B va n0 l0 g t kd dy ⟨6,⟨ck,A,ct,F,cq,ci,O,cg⟩,id,xj,qty,xk,xi⟩ w (.returned (.tuple #[])) w'):=fun w' vT vh N Y=>⟨rfl,N,vT,vh,Y⟩
 obtain ⟨h0,k,o,uM,uX,-,hqo⟩:=rule6 (e:=⟨6,⟨ck,A,ct,F,cq,ci,O,cg⟩,id,xj,qty,xk,xi⟩) rfl hr
 simp only at uM hqo
 have ug:Hid (aM g ⟨6,⟨ck,A,ct,F,cq,ci,O,cg⟩,id,xj,qty,xk,xi⟩ = { g with l:=g.l.take k ++ g.l.drop (k + 1),bg:=6 }):=by show _ = _; rw [step6 rfl]; simp only [begG,if_pos h0,cF uM uX]; rw [aN,if_pos hqo.symm]
 have ux:Hid (tkM g t ⟨6,⟨ck,A,ct,F,cq,ci,O,cg⟩,id,xj,qty,xk,xi⟩ = t∧kdM kd ⟨6,⟨ck,A,ct,F,cq,ci,O,cg⟩,id,xj,qty,xk,xi⟩ = kd∧dyM g dy ⟨6,⟨ck,A,ct,F,cq,ci,O,cg⟩,id,xj,qty,xk,xi⟩ = dy):=⟨rfl,rfl,rfl⟩
 have xD:g.l ≠ []:=by intro h; rw [h] at uX; simp at uX
 have oW:=(yH.1 uX).1
 obtain ⟨gb,cap,rfl,uq,hBg,hgw⟩:=cB h.row xD
 have jh:=hi.len
 have jr:=H uM
 clear h0 uM uX hqo
 generalize TakE cp B va n0 l0 g t kd dy ⟨6,⟨ck,A,ct,F,cq,ci,O,cg⟩,id,xj,qty,xk,xi⟩ w = C at qF ⊢
 obtain ⟨xz,HX⟩:=fE w (yw 6 ck A ct F cq ci O cg id xj qty xk xi) 52
 have HM:=H (zv h xz)
 have HB:=H (xz.mono vW)
 clear h xz hi hm he hr
 go_enter Tryz.func52,Tryz.ntmps52
 refine fD fun zb HK=>?_
 go_wp2_with fail
 refine U HK _ _ ?_
 clear HK
 generalize (w.alloc (L (yw 6 ck A ct F cq ci O cg id xj qty xk xi).toArray 52)) = W1 at HX HM HB ⊢
 have c9:=K (U HM).box 9 rfl
 have q9:=zd (U HM).box 9 (by show 9 < 13; decide)
 have xw:Hid (Below B w (World.setCells W1 cp 9 [.bool true])):=zL (U HB) yb (U HM) 9 _
 have xR:Hid (MS cp B (World.setCells W1 cp 9 [.bool true]) (.slice (some (Q gb 0)) g.l.length cap) vd va { g with bg:=6 } t kd n0 dy l0):=bK (U HM) 9 [.bool true] (by simp) rfl rfl (fun h=>absurd (show (6:Int) = 0 from h) (by decide))
 have xI:Hid (Bx (World.setCells W1 cp 9 [.bool true]) w.heap.size (yw 6 ck A ct F cq ci O cg id xj qty xk xi)):=aO (U HX) (bA cp w.heap.size (by omega) _ 9 W1)
 clear HX HM HB
 refine fD fun zb HK=>?_
 go_wp2_with fail
 refine U HK _ _ ?_
 clear HK
 change Code.wp _ _ _ _ (World.setCells W1 cp 9 [.bool true])
 generalize World.setCells W1 cp 9 [.bool true] = xo at xw xR xI ⊢
 have uN:Hid (RdR Od.vs 6 xo (.slice (some (Q gb 0)) g.l.length cap) g.l):=zK (U xR).row (yO jh (by decide))
 have e0:=K (U xI) 0 rfl
 clear c9 q9
 go_wp2_with fail
 refine zm (RAA (fun f=>{ tmps:=#[J cp 0,.agg (yw 6 ck A ct F cq ci O cg id xj qty xk xi).toArray,M,J w.heap.size 0,M,J cp 0,J cp 0,J cp 9,J w.heap.size 0,I 6,.bool false,.bool false,M,M,M,M,M,M,M,M,M,M,M,M,M,M,M,M,M,M,M,M,M,M,M,.bool false,.bool false,M,M,M,M,M,M,M,M,M,M,M,M,M,M,M,M,M,M,M,M,M,M,M,M,M,M,.bool false,.bool false,M,M,M,M,M,M,M,M,M,M,M,M,M,M,M,M,M,M,M,.bool false,.bool false,M,M,M,M,.bool true,.bool true,f 0,f 1,f 2,f 3,f 4,f 5,f 6,f 7,f 8,f 9,f 10,f 11,f 12,f 13,f 14,M,M,M,M,M,M,M,M,M,M,M,M,M,M,M,M,M,M,M,M,M,M,M,M,M,M,M,M,M,M,M,M,M,M,M,M,M,M,M,M,M,M,M,M,M,M,M,M,M,M,M,M,M,M,M,M,M,M,M,M,M,M,M,M,M,M,M,M,M,M,M,M,M,M,M,M,M,M],defers:=[] }) (fun j v=>∀ u,([some (J cp 0),some (J cp 0),some (J cp 0),some (J cp 1),some (.slice (some (Q gb 0)) g.l.length cap),some (J cp 0),some (J cp 0),some (J cp 1),some (.slice (some (Q gb 0)) g.l.length cap),some (J w.heap.size 9),some (I id),some (I k),none,some (J cp 0),some (J cp 1),none]:List (Option Value))[j]? = some (some u)→v = u) 12 15 (Q cp 1) (fun W v=>ORow W xo.heap.size v (g.l.take k ++ g.l.drop (k + 1))∧yp xo W) xo) (by kernel_rfl) ?_ ?_ ?_
 ·exact ⟨fun _=>M,rfl,⟨fun j V=>by rw [yJ] at V; split at V <;> simp at V,fun _=>⟨rfl,rfl,rfl,Nat.le_refl _,fun _ _=>rfl⟩,fun V=>by rw [yJ] at V; split at V <;> simp at V,fun V=>by rw [yJ] at V; split at V <;> simp at V⟩⟩
 ·rintro x cs h2 ⟨f,rfl,R⟩ hx xO
  have xq:=zN xO hx (acyc _ (by kernel_rfl))
  obtain ⟨W0,⟨Z,xz⟩,eY⟩:=R.z (xq 15 (by simp))
  have qd:=H (zv (U xR) xz)
  have xH:=H ((U xw).trans (xz.mono (U xR).base))
  have vr:=H (zS Z (U xR).base)
  clear R xq xO hx xz Z
  dsimp only
  generalize f 0 = v0,f 1 = v1,f 2 = v2,f 3 = v3,f 4 = v4,f 5 = v5,f 6 = v6,f 7 = v7,f 8 = v8,f 9 = v9,f 10 = v10,f 11 = v11
  generalize f 12 = v12 at *
  generalize f 13 = v13,f 14 = v14
  subst eY
  go_end0
  refine U qF _ v12 vd (zL (U xH) yb (U qd) 1 [v12]) ?_
  rw [U ug,(U ux).1,(U ux).2.1,(U ux).2.2]
  exact ms_list (U qd) (U vr) (fun h=>absurd (show (6:Int) = 0 from h) (by decide))
 ·rintro x cs hj i op ⟨f,rfl,R⟩ X hx Z xr D
  have xu:=H R
  have vo:i < 13→i ≠ 0→x[12]? = some false:=fun xJ h0=>by
   rcases br hx (show 12 < 16 by omega) with hq | uK
   ·exact hq
   ·exfalso
    have h4:=yh X 12 rfl uK 4 rfl
    have uR:=yh X 12 rfl uK 11 rfl
    have h3:=yh X 4 rfl h4 3 rfl
    have Y:=yh X 3 rfl h3 2 rfl
    have N:=yh X 2 rfl Y 1 rfl
    have h8:=yh X 11 rfl uR 8 rfl
    have uV:=yh X 11 rfl uR 10 rfl
    have h7:=yh X 8 rfl h8 7 rfl
    have h6:=yh X 7 rfl h7 6 rfl
    have h5:=yh X 6 rfl h6 5 rfl
    have h9:=yh X 10 rfl uV 9 rfl
    rcases (by omega:i = 1 ∨ i = 2 ∨ i = 3 ∨ i = 4 ∨ i = 5 ∨ i = 6 ∨ i = 7 ∨ i = 8 ∨ i = 9 ∨ i = 10 ∨ i = 11 ∨ i = 12) with rfl | rfl | rfl | rfl | rfl | rfl | rfl | rfl | rfl | rfl | rfl | rfl
    ·exact absurd (N.symm.trans xr) (by simp)
    ·exact absurd (Y.symm.trans xr) (by simp)
    ·exact absurd (h3.symm.trans xr) (by simp)
    ·exact absurd (h4.symm.trans xr) (by simp)
    ·exact absurd (h5.symm.trans xr) (by simp)
    ·exact absurd (h6.symm.trans xr) (by simp)
    ·exact absurd (h7.symm.trans xr) (by simp)
    ·exact absurd (h8.symm.trans xr) (by simp)
    ·exact absurd (h9.symm.trans xr) (by simp)
    ·exact absurd (uV.symm.trans xr) (by simp)
    ·exact absurd (uR.symm.trans xr) (by simp)
    ·exact absurd (uK.symm.trans xr) (by simp)
  have n15:x[12]? = some false→x[15]? = some false:=fun uK=>by
   rcases br hx (show 15 < 16 by omega) with hq | vR
   ·exact hq
   ·exact absurd ((yh X 15 rfl vR 12 rfl).symm.trans uK) (by simp)
  have xm:i < 13→i ≠ 0→∀ (p:Addr) u,xo.cell? p = some u→hj.cell? p = some u:=fun h h0 p u hu=>((R.b (vo h h0)).cell (yL xo _ hu)).trans hu
  match i,Z with
  | 0,Z | 1,Z | 5,Z =>
   obtain rfl:=yc Z
   clear D R xm vo n15
   rw [if_pos (by rfl)];unfold Oper.wp;go_simp
   exact ⟨upd f _ (J cp 0),by simp [upd],zX (U xu) _ _ (yj rfl) (by decide) (by decide)⟩
  | 2,Z =>
   obtain rfl:=yc Z
   have g1:=R.c 1 (yf D 1 rfl) _ rfl
   clear D R xm vo n15
   rw [if_pos (by rfl)];unfold Oper.wp;go_simp
   exact ⟨upd f 2 (J cp 0),by simp [upd,g1],zX (U xu) 2 _ (yj rfl) (by decide) (by decide)⟩
  | 3,Z =>
   obtain rfl:=yc Z
   have g2:=R.c 2 (yf D 2 rfl) _ rfl
   clear D R xm vo n15
   rw [if_pos (by rfl)];unfold Oper.wp;go_simp
   exact ⟨upd f 3 (J cp 1),by simp [upd,g2],zX (U xu) 3 _ (yj rfl) (by decide) (by decide)⟩
  | 4,Z =>
   obtain rfl:=yc Z
   have g3:=R.c 3 (yf D 3 rfl) _ rfl
   have z:=xm (by omega) (by omega) (Q cp 1) _ (K (U xR).box 1 rfl)
   clear D R xm vo n15
   rw [if_pos (by rfl)];unfold Oper.wp;go_simp
   exact ⟨upd f 4 (.slice (some (Q gb 0)) g.l.length cap),by simp [upd,g3],zX (U xu) 4 _ (yj rfl) (by decide) (by decide)⟩
  | 6,Z =>
   obtain rfl:=yc Z
   have g5:=R.c 5 (yf D 5 rfl) _ rfl
   clear D R xm vo n15
   rw [if_pos (by rfl)];unfold Oper.wp;go_simp
   exact ⟨upd f 6 (J cp 0),by simp [upd,g5],zX (U xu) 6 _ (yj rfl) (by decide) (by decide)⟩
  | 7,Z =>
   obtain rfl:=yc Z
   have g6:=R.c 6 (yf D 6 rfl) _ rfl
   clear D R xm vo n15
   rw [if_pos (by rfl)];unfold Oper.wp;go_simp
   exact ⟨upd f 7 (J cp 1),by simp [upd,g6],zX (U xu) 7 _ (yj rfl) (by decide) (by decide)⟩
  | 8,Z =>
   obtain rfl:=yc Z
   have g7:=R.c 7 (yf D 7 rfl) _ rfl
   have z:=xm (by omega) (by omega) (Q cp 1) _ (K (U xR).box 1 rfl)
   clear D R xm vo n15
   rw [if_pos (by rfl)];unfold Oper.wp;go_simp
   exact ⟨upd f 8 (.slice (some (Q gb 0)) g.l.length cap),by simp [upd,g7],zX (U xu) 8 _ (yj rfl) (by decide) (by decide)⟩
  | 9,Z =>
   obtain rfl:=yc Z
   clear D R xm vo n15
   rw [if_pos (by rfl)];unfold Oper.wp;go_simp
   exact ⟨upd f 9 (J w.heap.size 9),by simp [upd],zX (U xu) 9 _ (yj rfl) (by decide) (by decide)⟩
  | 10,Z =>
   obtain rfl:=yc Z
   have g9:=R.c 9 (yf D 9 rfl) _ rfl
   have z:=xm (by omega) (by omega) (Q w.heap.size 9) _ (K (U xI) 9 rfl)
   clear D R xm vo n15
   rw [if_pos (by rfl)];unfold Oper.wp;go_simp
   exact ⟨upd f 10 (I id),by simp [upd,g9],zX (U xu) 10 _ (yj rfl) (by decide) (by decide)⟩
  | 11,Z =>
   obtain rfl:=yc Z
   have g8:=R.c 8 (yf D 8 rfl) _ rfl
   have qn:=R.c 10 (yf D 10 rfl) _ rfl
   have kj:=vo (by omega) (by omega)
   have qz:=n15 kj
   have qC:=H (zh (U uN) (R.b kj) yb)
   clear D R xm vo n15
   rw [if_pos (by rfl)];unfold Oper.wp;go_simp
   refine (cX _ g.l id hj (U qC)).mono ?_
   rw [U jr]
   rintro e w4 ⟨rfl,xy⟩
   exact ⟨upd f 11 (I k),by simp [upd,g8,qn],zX (ra_grow (U xu) kj qz xy) 11 _ (yj rfl) (by decide) (by decide)⟩
  | 12,Z =>
   obtain rfl:=yc Z
   have g4:=R.c 4 (yf D 4 rfl) _ rfl
   have vE:=R.c 11 (yf D 11 rfl) _ rfl
   have qz:=n15 xr
   have vj:=R.b xr
   have qC:=H (zh (U uN) vj yb)
   have xE:=H vj
   clear D R xm vo n15 vj
   rw [if_pos (by rfl)];unfold Oper.wp;go_simp
   obtain ⟨a9,c9,e9,-,aC⟩:=U qC
   obtain ⟨b9,o9,uO,oG,hcl9⟩:=aC xD
   rw [uO] at e9
   simp only [Value.slice.injEq,Option.some.injEq,Addr.mk.injEq,and_true,true_and] at e9
   obtain ⟨⟨rfl,rfl⟩,rfl⟩:=e9
   refine (l04Drop_any gb 0 cap g.l k hj hcl9 oG oW uq (yO jh (by decide))).mono ?_
   rintro e w4 ⟨v9,rfl,kL,xy⟩
   exact ⟨upd f 12 v9,by simp [upd,g4,vE],ra_app (U xu) xr qz (by decide) (fun u hu=>by cases hu) ⟨zS kL (U xE).size,(U xE).trans (xy.mono (U xE).size)⟩⟩
  | 13,Z =>
   obtain rfl:=yc Z
   have g0:=R.c 0 (yf D 0 rfl) _ rfl
   clear D R xm vo n15
   rw [if_pos (by rfl)];unfold Oper.wp;go_simp
   exact ⟨upd f 13 (J cp 0),by simp [upd,g0],zX (U xu) 13 _ (yj rfl) (by decide) (by decide)⟩
  | 14,Z =>
   obtain rfl:=yc Z
   have qI:=R.c 13 (yf D 13 rfl) _ rfl
   clear D R xm vo n15
   rw [if_pos (by rfl)];unfold Oper.wp;go_simp
   exact ⟨upd f 14 (J cp 1),by simp [upd,qI],zX (U xu) 14 _ (yj rfl) (by decide) (by decide)⟩
  | 15,Z =>
   obtain rfl:=yc Z
   have je:=R.c 14 (yf D 14 rfl) _ rfl
   have kj:x[12]? = some true:=D ⟨12,.data⟩ (by simp) rfl
   obtain ⟨pX,vj⟩:=R.a kj xr
   have vI:=H (zv (U xR) vj)
   have y1:=K (U vI).box 1 rfl
   have q1:=zd (U vI).box 1 (by show 1 < 13; decide)
   obtain ⟨ga,gn,gc,ua⟩:∃ ga gn gc,f 12 = .slice ga gn gc:=by
    obtain ⟨ga,gc,ua⟩:=cd (zK pX (by simp; omega))
    exact ⟨ga,_,gc,ua⟩
   clear D R xm vo n15 pX vj
   rw [if_pos (by rfl)];unfold Oper.wp;go_simp
   refine ⟨f,by simp [je,ua],?_⟩
   have:=ra_store (U xu) kj xr (by decide) (fun v u hu=>by cases hu)
   rw [ua] at this
   exact this
  | i + 16,Z=>simp at Z
def ancS (l:List Oper) (s:List Nat):List Nat:=s ++ s.flatMap fun i=>match l[i]? with
 | some o=>(o.after.toList.filter fun e=>Region.binds .any e).map fun e=>e.on
 | none=>[]
def ancN (l:List Oper):Nat→List Nat→List Nat
 | 0,s=>s
 | n + 1,s=>ancN l n (ancS l s).eraseDups
theorem ancS_true {l:List Oper} {x:List Bool} (hc:Closed l x) {s:List Nat} (hs:∀ i ∈ s,x[i]? = some true):∀ i ∈ ancS l s,x[i]? = some true:=by
 intro i hi
 rcases List.mem_append.1 hi with h | h
 ·exact hs i h
 ·obtain ⟨k,hk,hm⟩:=List.mem_flatMap.1 h
  split at hm
  ·next o Z =>
   obtain ⟨e,he,rfl⟩:=List.mem_map.1 hm
   obtain ⟨he1,he2⟩:=List.mem_filter.1 he
   exact hc k o Z (hs k hk) e (by simpa using he1) he2
  ·simp at hm
theorem ancN_true {l:List Oper} {x:List Bool} (hc:Closed l x):∀ (n:Nat) (s:List Nat),(∀ i ∈ s,x[i]? = some true)→∀ i ∈ ancN l n s,x[i]? = some true
 | 0,s,hs=>hs
 | n + 1,s,hs=>ancN_true hc n _ (fun i hi=>ancS_true hc hs i (List.mem_eraseDups.1 hi))
theorem zU {l:List Oper} {x:List Bool} (hc:Closed l x) (d i n:Nat) (hB:(ancN l d [n]).contains i = true) (hx:x.length = l.length) (hn:n < l.length) (hi:x[i]? = some false):x[n]? = some false:=by
 rcases br hx hn with h | h
 ·exact h
 ·have:=ancN_true hc d [n] (by simpa using h) i (by simpa using hB)
  rw [hi] at this; cases this
section
variable {C:World→Nat→Value→Prop} {n:Nat} {ya:(Nat→Value)→World→Prop} {base W W':World} {x:List Bool} {f:Nat→Value}
end
structure R4 (C:Nat→Value→Prop) (p:Addr) (B0:World) (fy:List Od) (t:Od) (x:List Bool) (f:Nat→Value) (W:World):Prop where
 c:∀ j,x[j]? = some true→C j (f j)
 bel:x[15]? = some false→Below B0.heap.size B0 W
 m0:x[1]? = some true→x[6]? = some false→ORow W B0.heap.size (f 1) []
 m2:x[6]? = some true→x[12]? = some false→ORow W B0.heap.size (f 6) fy
 m4:x[11]? = some true→x[12]? = some false→∃ b,f 11 = .slice (some ⟨b,0,none⟩) 1 1∧b < W.heap.size∧W.rangeAt b 0 t.vs∧(x[1]? = some true→x[6]? = some false→(f 1).ownBlock ≠ some b)
 m5:x[12]? = some true→x[15]? = some false→ORow W B0.heap.size (f 12) (fy ++ [t])
 mz:x[15]? = some true→∃ W0,(ORow W0 B0.heap.size (f 12) (fy ++ [t])∧Below B0.heap.size B0 W0)∧W = W0.setCell p (f 12)
def R4A (cl:(Nat→Value)→Act) (C:Nat→Value→Prop) (p:Addr) (B0:World) (fy:List Od) (t:Od) (x:List Bool) (cs:Act) (W:World):Prop:=∃ f,cs = cl f∧R4 C p B0 fy t x f W
section
variable {C:Nat→Value→Prop} {p:Addr} {B0 W W':World} {fy:List Od} {t:Od} {x:List Bool} {f:Nat→Value}
theorem r4_grow (h:R4 C p B0 fy t x f W) (n:x[15]? = some false) (E:yp W W'):R4 C p B0 fy t x f W' :=
 ⟨h.c,fun _=>(h.bel n).trans (E.mono (h.bel n).size),fun a b=>zM (h.m0 a b) E,fun a b=>zM (h.m2 a b) E,fun a b=>by
  obtain ⟨b',N,Y,h4,h5⟩:=h.m4 a b
  exact ⟨b',N,yK Y E.size,zc h4 E Y,h5⟩,fun a b=>zM (h.m5 a b) E,fun a=>by rw [n] at a; cases a⟩
theorem cw (h:R4 C p B0 fy t x f W) (i:Nat) (v:Value) (hv:C i v) (hi:i ≠ 1∧i ≠ 6∧i ≠ 11∧i ≠ 12∧i ≠ 15):R4 C p B0 fy t (x.set i true) (upd f i v) W:=by
 obtain ⟨N,h6,uR,uK,vR⟩:=hi
 refine ⟨zC h.c hv,?_,?_,?_,?_,?_,?_⟩ <;> simp only [gq N,gq h6,gq uR,gq uK,gq vR,zk f v N.symm,zk f v h6.symm,zk f v uR.symm,zk f v uK.symm]
 ·exact h.bel
 ·exact h.m0
 ·exact h.m2
 ·exact h.m4
 ·exact h.m5
 ·exact h.mz
theorem r4_1 (h:R4 C p B0 fy t x f W) (n:x[15]? = some false) (hc:∀ v,C 1 v):R4 C p B0 fy t (x.set 1 true) (upd f 1 (.slice (some (Q W.heap.size 0)) 0 0)) (W.alloc (L #[] 78)):=by
 have hg:=r4_grow h n ((Below.refl W.heap.size W).alloc yb (L #[] 78))
 refine ⟨zC hg.c (hc _),fun _=>hg.bel n,?_,?_,?_,?_,?_⟩
 ·intro _ _; rw [zr]; exact World.ownsRow_made W #[] 0 (h.bel n).size (by decide) rfl
 ·rw [gq (by decide),gq (by decide),zk _ _ (by decide)]; exact hg.m2
 ·intro hh4 hh5
  rw [gq (by decide)] at hh4 hh5
  obtain ⟨b,N,Y,h4,h5⟩:=hg.m4 hh4 hh5
  obtain ⟨b',e1,e2,_⟩:=h.m4 hh4 hh5
  rw [N] at e1
  simp only [Value.slice.injEq,Option.some.injEq,Addr.mk.injEq,and_true] at e1
  subst e1
  refine ⟨b,by rw [zk _ _ (by decide)]; exact N,Y,h4,fun _ _ e=>?_⟩
  rw [zr] at e
  simp [Value.ownBlock] at e
  omega
 ·rw [gq (by decide),gq (by decide),zk _ _ (by decide)]; exact hg.m5
 ·intro e; rw [gq (by decide),n] at e; cases e
theorem r4_6 (h:R4 C p B0 fy t x f W) (n:x[15]? = some false) (hh0:x[1]? = some true) (hh2:x[6]? = some false) (hh5:x[12]? = some false) (hc:∀ v,C 6 v) {v':Value} (Z:ORow W' B0.heap.size v' fy) (hg:W.grownBy W' (f 1).ownBlock):R4 C p B0 fy t (x.set 6 true) (upd f 6 v') W':=by
 refine ⟨zC h.c (hc _),fun _=>(h.bel n).grown hg (h.bel n).size (fun k hk=>((h.m0 hh0 hh2).lt k hk).1),?_,?_,?_,?_,?_⟩
 ·intro _ e; rw [gqs hh2] at e; cases e
 ·intro _ _; rw [zr]; exact Z
 ·intro hh4 _
  rw [gq (by decide)] at hh4
  obtain ⟨b,N,Y,h4,h5⟩:=h.m4 hh4 hh5
  refine ⟨b,by rw [zk _ _ (by decide)]; exact N,yK Y hg.size,zx h4 hg Y (fun e=>h5 hh0 hh2 e.symm),fun _ e=>?_⟩
  rw [gqs hh2] at e; cases e
 ·intro e; rw [gq (by decide),hh5] at e; cases e
 ·intro e; rw [gq (by decide),n] at e; cases e
theorem r4_11 (h:R4 C p B0 fy t x f W) (n:x[15]? = some false) (hh4:x[11]? = some false) (hc:∀ v,C 11 v):R4 C p B0 fy t (x.set 11 true) (upd f 11 (.slice (some (Q W.heap.size 0)) 1 1)) (W.alloc (Obj.cells t.vs.toArray 78)):=by
 have hg:=r4_grow h n ((Below.refl W.heap.size W).alloc yb (Obj.cells t.vs.toArray 78))
 refine ⟨zC hg.c (hc _),fun _=>hg.bel n,?_,?_,?_,?_,?_⟩
 ·rw [gq (by decide),gq (by decide),zk _ _ (by decide)]; exact hg.m0
 ·rw [gq (by decide),gq (by decide),zk _ _ (by decide)]; exact hg.m2
 ·intro _ _
  refine ⟨W.heap.size,zr _ _ _,by rw [zj]; omega,zn W t.vs _,fun hh0 hh2 e=>?_⟩
  rw [gq (by decide)] at hh0 hh2
  rw [zk _ _ (by decide)] at e
  have:=((h.m0 hh0 hh2).lt _ e).2
  omega
 ·rw [gq (by decide),gq (by decide),zk _ _ (by decide)]; exact hg.m5
 ·intro e; rw [gq (by decide),n] at e; cases e
theorem r4_12 (h:R4 C p B0 fy t x f W) (n:x[15]? = some false) (hh2:x[6]? = some true) (hh5:x[12]? = some false) (hc:∀ v,C 12 v) {v':Value} (Z:ORow W' B0.heap.size v' (fy ++ [t])) (hg:W.grownBy W' (f 6).ownBlock):R4 C p B0 fy t (x.set 12 true) (upd f 12 v') W':=by
 refine ⟨zC h.c (hc _),fun _=>(h.bel n).grown hg (h.bel n).size (fun k hk=>((h.m2 hh2 hh5).lt k hk).1),?_,?_,?_,?_,?_⟩
 ·intro _ e; rw [gq (by decide),hh2] at e; cases e
 ·intro _ e; rw [gqs hh5] at e; cases e
 ·intro _ e; rw [gqs hh5] at e; cases e
 ·intro _ _; rw [zr]; exact Z
 ·intro e; rw [gq (by decide),n] at e; cases e
theorem r4_15 (h:R4 C p B0 fy t x f W) (n:x[15]? = some false) (uK:x[12]? = some true) (h6:x[6]? = some true) (hc:∀ v,C 15 v):R4 C p B0 fy t (x.set 15 true) f (W.setCell p (f 12)):=by
 refine ⟨fun j V=>?_,?_,?_,?_,?_,?_,fun _=>⟨W,⟨h.m5 uK n,h.bel n⟩,rfl⟩⟩
 ·by_cases hjm:j = 15
  ·subst hjm; exact hc _
  ·rw [gq (fun e=>hjm e.symm)] at V; exact h.c j V
 ·intro e; rw [gqs n] at e; cases e
 ·intro _ e; rw [gq (by decide),h6] at e; cases e
 ·intro _ e; rw [gq (by decide),uK] at e; cases e
 ·intro _ e; rw [gq (by decide),uK] at e; cases e
 ·intro _ e; rw [gqs n] at e; cases e
end
theorem take_4 {cp B:Nat} {vl vd va:Value} {g:Gr} {t:Od} {kd n0:Int} {dy l0:List Od} (ck A ct F cq ci:Int) (O:Nat) (cg:ByteArray) (id xj qty xk xi:Int) (w:World) (h:MS cp B w vl vd va g t kd n0 dy l0) (hi:GI g) (hm:MR g t kd dy) (he:okE ⟨4,⟨ck,A,ct,F,cq,ci,O,cg⟩,id,xj,qty,xk,xi⟩ = true) (hr:zF g ⟨4,⟨ck,A,ct,F,cq,ci,O,cg⟩,id,xj,qty,xk,xi⟩ = 0):Calls Tryz.prog 52 #[J cp 0,.agg (yw 4 ck A ct F cq ci O cg id xj qty xk xi).toArray] w fun x w'=>TakE cp B va n0 l0 g t kd dy ⟨4,⟨ck,A,ct,F,cq,ci,O,cg⟩,id,xj,qty,xk,xi⟩ w x w':=by
 have hsf:=sfl
 have hO:=h.lt
 have vW:=h.base
 have qF:Hid (∀ w' vT vh,Below B w w'→MS cp B w' vT vh va (aM g ⟨4,⟨ck,A,ct,F,cq,ci,O,cg⟩,id,xj,qty,xk,xi⟩) (tkM g t ⟨4,⟨ck,A,ct,F,cq,ci,O,cg⟩,id,xj,qty,xk,xi⟩) (kdM kd ⟨4,⟨ck,A,ct,F,cq,ci,O,cg⟩,id,xj,qty,xk,xi⟩) n0 (dyM g dy ⟨4,⟨ck,A,ct,F,cq,ci,O,cg⟩,id,xj,qty,xk,xi⟩) l0→TakE cp B va n0 l0 g t kd dy ⟨4,⟨ck,A,ct,F,cq,ci,O,cg⟩,id,xj,qty,xk,xi⟩ w (.returned (.tuple #[])) w'):=fun w' vT vh N Y=>⟨rfl,N,vT,vh,Y⟩
 obtain ⟨h0,jH⟩:=rule45 (e:=⟨4,⟨ck,A,ct,F,cq,ci,O,cg⟩,id,xj,qty,xk,xi⟩) (.inl rfl) hr
 have kR:t = g.tk:=hm.same jH
 have ug:Hid (aM g ⟨4,⟨ck,A,ct,F,cq,ci,O,cg⟩,id,xj,qty,xk,xi⟩ = { g with l:=g.l ++ [t],tk:={ g.tk with left:=0 } }):=by show _ = _; rw [step4 rfl]; simp only [begG]; rw [if_neg (by omega),kR]
 have ux:Hid (tkM g t ⟨4,⟨ck,A,ct,F,cq,ci,O,cg⟩,id,xj,qty,xk,xi⟩ = zOd∧kdM kd ⟨4,⟨ck,A,ct,F,cq,ci,O,cg⟩,id,xj,qty,xk,xi⟩ = kd∧dyM g dy ⟨4,⟨ck,A,ct,F,cq,ci,O,cg⟩,id,xj,qty,xk,xi⟩ = dy):=⟨rfl,rfl,rfl⟩
 have hbn:(g.bg != 0) = true:=by simp [h0]
 have pC:Hid (g.bg ≠ 0):=by show _ ≠ _; omega
 have jh:=hi.len
 obtain ⟨la,lc,rfl⟩:=cd (zK h.row (yO jh (by decide)))
 obtain ⟨i0,vA,uH,uI,uW⟩:=info_parts Tryz.infoOrder
 clear h0 jH kR
 generalize TakE cp B va n0 l0 g t kd dy ⟨4,⟨ck,A,ct,F,cq,ci,O,cg⟩,id,xj,qty,xk,xi⟩ w = C at qF ⊢
 obtain ⟨xz,HX⟩:=fE w (yw 4 ck A ct F cq ci O cg id xj qty xk xi) 52
 have HM:=H (zv h xz)
 have HB:=H (xz.mono vW)
 clear h xz hi hm he hr
 go_enter Tryz.func52,Tryz.ntmps52
 refine fD fun zb HK=>?_
 go_wp2_with fail
 refine U HK _ _ ?_
 clear HK
 generalize (w.alloc (L (yw 4 ck A ct F cq ci O cg id xj qty xk xi).toArray 52)) = W1 at HX HM HB ⊢
 have c9:=K (U HM).box 9 rfl
 have q9:=zd (U HM).box 9 (by show 9 < 13; decide)
 have xw:Hid (Below B w (World.setCells W1 cp 9 [.bool true])):=zL (U HB) yb (U HM) 9 _
 have xR:Hid (MS cp B (World.setCells W1 cp 9 [.bool true]) (.slice la g.l.length lc) vd va g t kd n0 dy l0):=bK (U HM) 9 [.bool true] (by simp) (by simp [msV,hbn]) rfl (fun h=>absurd h (U pC))
 have e0:(World.setCells W1 cp 9 [.bool true]).cell? (Q w.heap.size 0) = some (I 4):=K (aO (U HX) (bA cp w.heap.size (by omega) _ 9 W1)) 0 rfl
 clear hbn HX HM HB
 refine fD fun zb HK=>?_
 go_wp2_with fail
 refine U HK _ _ ?_
 clear HK
 change Code.wp _ _ _ _ (World.setCells W1 cp 9 [.bool true])
 generalize World.setCells W1 cp 9 [.bool true] = xo at xw xR e0 ⊢
 clear c9 q9
 go_wp2_with fail
 refine zm (R4A (fun f=>{ tmps:=#[J cp 0,.agg (yw 4 ck A ct F cq ci O cg id xj qty xk xi).toArray,M,J w.heap.size 0,M,J cp 0,J cp 0,J cp 9,J w.heap.size 0,I 4,.bool false,.bool false,M,M,M,M,M,M,M,M,M,M,M,M,M,M,M,M,M,M,M,M,M,M,M,.bool false,.bool false,M,M,M,M,M,M,M,M,M,M,M,M,M,M,M,M,M,M,M,M,M,M,M,M,M,M,.bool true,.bool true,f 0,f 1,f 2,f 3,f 4,f 5,f 6,f 7,f 8,f 9,f 10,f 11,f 12,f 13,f 14,M,M,M,M,M,M,M,M,M,M,M,M,M,M,M,M,M,M,M,M,M,M,M,M,M,M,M,M,M,M,M,M,M,M,M,M,M,M,M,M,M,M,M,M,M,M,M,M,M,M,M,M,M,M,M,M,M,M,M,M,M,M,M,M,M,M,M,M,M,M,M,M,M,M,M,M,M,M,M,M,M,M,M,M,M,M,M,M,M,M,M,M,M,M,M,M,M,M,M,M,M,M,M,M,M],defers:=[] }) (fun j v=>∀ u,([some (J cp 0),none,some (J cp 0),some (J cp 0),some (J cp 1),some (.slice la g.l.length lc),none,some (J cp 0),some (J cp 0),some (J cp 2),some (.agg (yx t.id t.side t.ticks t.left t.life t.tag).toArray),none,none,some (J cp 0),some (J cp 1),none]:List (Option Value))[j]? = some (some u)→v = u) (Q cp 1) xo g.l t) (by kernel_rfl) ?_ ?_ ?_
 ·have vL:∀ j,(List.replicate 16 false)[j]? = some true→False:=fun j V=>by rw [yJ] at V; split at V <;> simp at V
  exact ⟨fun _=>M,rfl,⟨fun j V=>(vL j V).elim,fun _=>⟨rfl,rfl,rfl,Nat.le_refl _,fun _ _=>rfl⟩,fun h=>(vL _ h).elim,fun h=>(vL _ h).elim,fun h=>(vL _ h).elim,fun h=>(vL _ h).elim,fun h=>(vL _ h).elim⟩⟩
 ·rintro x cs h2 ⟨f,rfl,R⟩ hx xO
  have xq:=zN xO hx (acyc _ (by kernel_rfl))
  obtain ⟨W0,⟨Z,xz⟩,eY⟩:=R.mz (xq 15 (by simp))
  have qd:=H (zv (U xR) xz)
  have xH:=H ((U xw).trans (xz.mono (U xR).base))
  have vr:=H (zS Z (U xR).base)
  clear R xq xO hx xz Z
  dsimp only
  generalize f 0 = v0,f 1 = v1,f 2 = v2,f 3 = v3,f 4 = v4,f 5 = v5,f 6 = v6,f 7 = v7,f 8 = v8,f 9 = v9,f 10 = v10,f 11 = v11
  generalize f 12 = v12 at *
  generalize f 13 = v13,f 14 = v14
  have vy:Hid (MS cp B (W0.setCell (Q cp 1) v12) v12 vd va { g with l:=g.l ++ [t] } t kd n0 dy l0):=ms_list (U qd) (U vr) (fun h=>absurd h (U pC))
  have uj:Hid (Below B w (W0.setCell (Q cp 1) v12)):=zL (U xH) yb (U qd) 1 [v12]
  rw [← eY] at vy uj
  clear eY qd xH vr
  have c2:=K (U vy).box 2 rfl
  have q2:=zd (U vy).box 2 (by show 2 < 13; decide)
  have c3:=K (U vy).box 3 rfl
  have q3:=zd (U vy).box 3 (by show 3 < 13; decide)
  have c4:=K (U vy).box 4 rfl
  have q4:=zd (U vy).box 4 (by show 4 < 13; decide)
  have c5:=K (U vy).box 5 rfl
  have q5:=zd (U vy).box 5 (by show 5 < 13; decide)
  have c6:=K (U vy).box 6 rfl
  have q6:=zd (U vy).box 6 (by show 6 < 13; decide)
  have c7:=K (U vy).box 7 rfl
  have q7:=zd (U vy).box 7 (by show 7 < 13; decide)
  go_wp2_with fail
  go_end0
  refine U qF _ v12 vd (zL (U uj) yb (U vy) 2 (yx 0 0 0 0 0 ⟨#[]⟩)) ?_
  rw [U ug,(U ux).1,(U ux).2.1,(U ux).2.2]
  exact bK (U vy) 2 (yx 0 0 0 0 0 ⟨#[]⟩) (by simp) rfl rfl (fun h=>absurd h (U pC))
 ·rintro x cs hj i op ⟨f,rfl,R⟩ X hx Z xr D
  have xu:=H R
  match i,Z with
  | 0,Z | 2,Z | 7,Z =>
   obtain rfl:=yc Z
   clear D R X
   rw [if_pos (by rfl)];unfold Oper.wp;go_simp
   exact ⟨upd f _ (J cp 0),by simp [upd],cw (U xu) _ _ (yj rfl) (by decide)⟩
  | 1,Z =>
   obtain rfl:=yc Z
   have qz:x[15]? = some false:=zU X 16 1 15 (by kernel_rfl) hx (by simp) xr
   clear D R X
   rw [if_pos (by rfl)];unfold Oper.wp;go_simp
   exact ⟨upd f 1 (.slice (some (Q hj.heap.size 0)) 0 0),by simp [upd],r4_1 (U xu) qz (fun v u hu=>by cases hu)⟩
  | 3,Z =>
   obtain rfl:=yc Z
   have g2:=R.c 2 (yf D 2 rfl) _ rfl
   clear D R X
   rw [if_pos (by rfl)];unfold Oper.wp;go_simp
   exact ⟨upd f 3 (J cp 0),by simp [upd,g2],cw (U xu) 3 _ (yj rfl) (by decide)⟩
  | 4,Z =>
   obtain rfl:=yc Z
   have g3:=R.c 3 (yf D 3 rfl) _ rfl
   clear D R X
   rw [if_pos (by rfl)];unfold Oper.wp;go_simp
   exact ⟨upd f 4 (J cp 1),by simp [upd,g3],cw (U xu) 4 _ (yj rfl) (by decide)⟩
  | 5,Z =>
   obtain rfl:=yc Z
   have g4:=R.c 4 (yf D 4 rfl) _ rfl
   have qz:x[15]? = some false:=zU X 16 5 15 (by kernel_rfl) hx (by simp) xr
   have jW:=H (zv (U xR) (R.bel qz))
   have z1:=K (U jW).box 1 rfl
   clear D R X
   rw [if_pos (by rfl)];unfold Oper.wp;go_simp
   exact ⟨upd f 5 (.slice la g.l.length lc),by simp [upd,g4],cw (U xu) 5 _ (yj rfl) (by decide)⟩
  | 6,Z =>
   obtain rfl:=yc Z
   have qz:x[15]? = some false:=zU X 16 6 15 (by kernel_rfl) hx (by simp) xr
   have k1:x[1]? = some true:=D ⟨1,.data⟩ (by simp) rfl
   have g5:=R.c 5 (yf D 5 rfl) _ rfl
   have kj:x[12]? = some false:=zU X 16 6 12 (by kernel_rfl) hx (by simp) xr
   have HO0:=H (R.m0 k1 xr)
   have vj:=R.bel qz
   have HROW:=H (zM (U xR).row vj)
   have HRDV:Hid (∀ ad,la = some ad→∀ j u,(g.l.flatMap Od.vs)[j]? = some u→hj.cell? (ad.add j) = some u):=fun ad had=>by
    have h:=zK (U HROW) (yO jh (by decide))
    rw [had] at h
    exact rd_src h
   clear D R X
   rw [if_pos (by rfl)]
   rcases oRow_sl (U HROW) with h | ⟨ad,nn,cc,h⟩
   ·simp only [Value.slice.injEq] at h
    have hL:g.l = []:=List.length_eq_zero_iff.1 h.2.1
    refine eQ (.tmp 66) (.tmp 70) 32 rfl xo.heap.size 78 i0 6 Tryz.underlying32 vA (f 1) 0 [] rfl (U HO0) (by show f 5 = _; rw [g5,h.1,h.2.1,h.2.2]) ?_
    exact ⟨upd f 6 (f 1),rfl,r4_6 (U xu) qz k1 xr kj (fun v u hu=>by cases hu) (by rw [hL]; exact U HO0) (yS _ _)⟩
   ·simp only [Value.slice.injEq] at h
    refine wp_append_own hj (.tmp 66) (.tmp 70) 32 rfl xo.heap.size 78 i0 _ 6 56 Tryz.underlying32 vA uH uI uW rfl (by decide) (f 1) 0 [] rfl (U HO0) ad g.l.length lc (g.l.flatMap Od.vs) (by show f 5 = _; rw [g5,h.1]) (by rw [zZ Od.len]) (U HRDV ad h.1) (bZ g.l) (by unfold maxLen; omega) (by omega) vj.size ?_
    intro v' w' xS vG _
    refine ⟨upd f 6 v',rfl,r4_6 (U xu) qz k1 xr kj (fun v u hu=>by cases hu) ?_ vG⟩
    show w'.ownsRow _ _ _ _ g.l.length _
    simpa using xS
  | 8,Z =>
   obtain rfl:=yc Z
   have g7:=R.c 7 (yf D 7 rfl) _ rfl
   clear D R X
   rw [if_pos (by rfl)];unfold Oper.wp;go_simp
   exact ⟨upd f 8 (J cp 0),by simp [upd,g7],cw (U xu) 8 _ (yj rfl) (by decide)⟩
  | 9,Z =>
   obtain rfl:=yc Z
   have g8:=R.c 8 (yf D 8 rfl) _ rfl
   clear D R X
   rw [if_pos (by rfl)];unfold Oper.wp;go_simp
   exact ⟨upd f 9 (J cp 2),by simp [upd,g8],cw (U xu) 9 _ (yj rfl) (by decide)⟩
  | 10,Z =>
   obtain rfl:=yc Z
   have g9:=R.c 9 (yf D 9 rfl) _ rfl
   have qz:x[15]? = some false:=zU X 16 10 15 (by kernel_rfl) hx (by simp) xr
   have jW:=H (zv (U xR) (R.bel qz))
   have z2:=K (U jW).box 2 rfl
   have z3:=K (U jW).box 3 rfl
   have z4:=K (U jW).box 4 rfl
   have z5:=K (U jW).box 5 rfl
   have z6:=K (U jW).box 6 rfl
   have z7:=K (U jW).box 7 rfl
   clear D R X
   rw [if_pos (by rfl)];unfold Oper.wp;go_simp
   exact ⟨upd f 10 (.agg (yx t.id t.side t.ticks t.left t.life t.tag).toArray),by simp [upd,g9],cw (U xu) 10 _ (yj rfl) (by decide)⟩
  | 11,Z =>
   obtain rfl:=yc Z
   have qn:=R.c 10 (yf D 10 rfl) _ rfl
   have qz:x[15]? = some false:=zU X 16 11 15 (by kernel_rfl) hx (by simp) xr
   clear D R X
   rw [if_pos (by rfl)];unfold Oper.wp;go_simp
   exact ⟨upd f 11 (.slice (some (Q hj.heap.size 0)) 1 1),by simp [upd,qn],r4_11 (U xu) qz xr (fun v u hu=>by cases hu)⟩
  | 12,Z =>
   obtain rfl:=yc Z
   have qz:x[15]? = some false:=zU X 16 12 15 (by kernel_rfl) hx (by simp) xr
   have k6:x[6]? = some true:=D ⟨6,.data⟩ (by simp) rfl
   obtain ⟨b4,vE,uk,xQ,-⟩:=R.m4 (yf D 11 rfl) xr
   have jA:=H (R.m2 k6 xr)
   have vj:=R.bel qz
   have qO:Hid (∀ j u,t.vs[j]? = some u→hj.cell? (((Q b4 0):Addr).add j) = some u):=fun j u hu=>by
    have:=xQ j u hu
    rw [Addr.add_mid]; exact this
   clear D R X xQ
   rw [if_pos (by rfl)]
   refine wp_append_own hj (.tmp 71) (.tmp 76) 32 rfl xo.heap.size 78 i0 _ 6 56 Tryz.underlying32 vA uH uI uW rfl (by decide) (f 6) g.l.length (g.l.flatMap Od.vs) rfl (U jA) (Q b4 0) 1 1 t.vs (by show f 11 = _; exact vE) rfl (U qO) (one_od t) (by unfold maxLen; omega) (by omega) vj.size ?_
   intro v' w' xS vG _
   refine ⟨upd f 12 v',rfl,r4_12 (U xu) qz k6 xr (fun v u hu=>by cases hu) ?_ vG⟩
   show w'.ownsRow _ _ _ _ (g.l ++ [t]).length _
   rw [yQ,List.flatMap_append]
   simpa using xS
  | 13,Z =>
   obtain rfl:=yc Z
   have g0:=R.c 0 (yf D 0 rfl) _ rfl
   clear D R X
   rw [if_pos (by rfl)];unfold Oper.wp;go_simp
   exact ⟨upd f 13 (J cp 0),by simp [upd,g0],cw (U xu) 13 _ (yj rfl) (by decide)⟩
  | 14,Z =>
   obtain rfl:=yc Z
   have qI:=R.c 13 (yf D 13 rfl) _ rfl
   clear D R X
   rw [if_pos (by rfl)];unfold Oper.wp;go_simp
   exact ⟨upd f 14 (J cp 1),by simp [upd,qI],cw (U xu) 14 _ (yj rfl) (by decide)⟩
  | 15,Z =>
   obtain rfl:=yc Z
   have je:=R.c 14 (yf D 14 rfl) _ rfl
   have kj:x[12]? = some true:=D ⟨12,.data⟩ (by simp) rfl
   have k6:x[6]? = some true:=yh X 12 rfl kj 6 rfl
   have vI:=H (zv (U xR) (R.bel xr))
   have y1:=K (U vI).box 1 rfl
   have q1:=zd (U vI).box 1 (by show 1 < 13; decide)
   obtain ⟨ga,gc,ua⟩:=cd (zK (R.m5 kj xr) (by simp; omega))
   generalize (g.l ++ [t]).length = gn at ua
   clear D R X
   rw [if_pos (by rfl)];unfold Oper.wp;go_simp
   refine ⟨f,by simp [je,ua],?_⟩
   have:=r4_15 (U xu) xr kj k6 (fun v u hu=>by cases hu)
   rw [ua] at this
   exact this
  | i + 16,Z=>simp at Z
end Go.Proofs.YtnphbkgfjanmgaaGreatDoor
