/-
  An order cancelled, by the model: proved by walking the method.
-/
import Derived.Test.YtnphbkgfjanmgaaGreatDoorBj37
set_option linter.unusedVariables false
set_option maxHeartbeats 6400000
set_option maxRecDepth 100000
namespace Go.Proofs.YtnphbkgfjanmgaaGreatDoor
open Go.RowKit
theorem ms_list {hj B:Nat} {W:World} {vl vS vd va:Value} {g:Gr} {t:Od} {kd n0:Int} {dy l0 l':List Od} (h:MS hj B W vl vd va g t kd n0 dy l0) (N:ORow W B vS l') (hq:g.bg = 0→n0 = g.nx∧l0 = l'∧vd = .slice none 0 0):MS hj B (W.setCell (U hj 1) vS) vS vd va { g with l:=l' } t kd n0 dy l0 :=
 ⟨bd h.box (by show 1 < 13; decide),bp N (cd N h.typ (by decide)) 1 vS,cZ (us:=[vS]) (o:=1) h.days h.nd,cZ (us:=[vS]) (o:=1) h.ahd (fun xD b' off n c e=>by have:=h.na xD b' off n c e; have:=h.hO; omega),h.sla,dS [vS] 1 W h.typ,h.hO,hq,h.ndc,h.na⟩
theorem take_6 {hj B:Nat} {vl vd va:Value} {g:Gr} {t:Od} {kd n0:Int} {dy l0:List Od} (ck L ct F cq ci:Int) (X:Nat) (cg:ByteArray) (id xi qty xj xh:Int) (w:World) (h:MS hj B w vl vd va g t kd n0 dy l0) (hi:GI g) (hm:MR g t kd dy) (he:okE ⟨6,⟨ck,L,ct,F,cq,ci,X,cg⟩,id,xi,qty,xj,xh⟩ = true) (hr:zD g ⟨6,⟨ck,L,ct,F,cq,ci,X,cg⟩,id,xi,qty,xj,xh⟩ = 0):Calls Tryz.prog 52 #[J hj 0,.agg (yv 6 ck L ct F cq ci X cg id xi qty xj xh).toArray] w fun x w'=>TakE hj B va n0 l0 g t kd dy ⟨6,⟨ck,L,ct,F,cq,ci,X,cg⟩,id,xi,qty,xj,xh⟩ w x w':=by
 have hsf:=sfl
 have hO:=h.lt
 have vV:=h.base
 have qm:Hid (∀ w' vS vh,Below B w w'→MS hj B w' vS vh va (aQ g ⟨6,⟨ck,L,ct,F,cq,ci,X,cg⟩,id,xi,qty,xj,xh⟩) (tkM g t ⟨6,⟨ck,L,ct,F,cq,ci,X,cg⟩,id,xi,qty,xj,xh⟩) (kdM kd ⟨6,⟨ck,L,ct,F,cq,ci,X,cg⟩,id,xi,qty,xj,xh⟩) n0 (dyM g dy ⟨6,⟨ck,L,ct,F,cq,ci,X,cg⟩,id,xi,qty,xj,xh⟩) l0→TakE hj B va n0 l0 g t kd dy ⟨6,⟨ck,L,ct,F,cq,ci,X,cg⟩,id,xi,qty,xj,xh⟩ w (.returned (.tuple #[])) w'):=fun w' vS vh Q E=>⟨rfl,Q,vS,vh,E⟩
 obtain ⟨h0,k,o,uQ,uX,-,hqo⟩:=rule6 (e:=⟨6,⟨ck,L,ct,F,cq,ci,X,cg⟩,id,xi,qty,xj,xh⟩) rfl hr
 simp only at uQ hqo
 have uh:Hid (aQ g ⟨6,⟨ck,L,ct,F,cq,ci,X,cg⟩,id,xi,qty,xj,xh⟩ = { g with l:=g.l.take k ++ g.l.drop (k + 1),bg:=6 }):=by show _ = _; rw [step6 rfl]; simp only [begG,if_pos h0,cM uQ uX]; rw [aR,if_pos hqo.symm]
 have ux:Hid (tkM g t ⟨6,⟨ck,L,ct,F,cq,ci,X,cg⟩,id,xi,qty,xj,xh⟩ = t∧kdM kd ⟨6,⟨ck,L,ct,F,cq,ci,X,cg⟩,id,xi,qty,xj,xh⟩ = kd∧dyM g dy ⟨6,⟨ck,L,ct,F,cq,ci,X,cg⟩,id,xi,qty,xj,xh⟩ = dy):=⟨rfl,rfl,rfl⟩
 have xD:g.l ≠ []:=by intro h; rw [h] at uX; simp at uX
 have pa:=(yG.1 uX).1
 obtain ⟨gb,cap,rfl,uq,hBg,hgw⟩:=cI h.row xD
 have jk:=hi.len
 have jt:=M uQ
 clear h0 uQ uX hqo
 generalize TakE hj B va n0 l0 g t kd dy ⟨6,⟨ck,L,ct,F,cq,ci,X,cg⟩,id,xi,qty,xj,xh⟩ w = C at qm ⊢
 obtain ⟨xz,HX⟩:=fJ w (yv 6 ck L ct F cq ci X cg id xi qty xj xh) 52
 have HM:=M (zv h xz)
 have HB:=M (xz.mono vV)
 clear h xz hi hm he hr
 go_enter Tryz.func52,Tryz.ntmps52
 refine fI fun hR HK=>?_
 go_wp2_with fail
 refine H HK _ _ ?_
 clear HK
 generalize (w.alloc (A (yv 6 ck L ct F cq ci X cg id xi qty xj xh).toArray 52)) = W1 at HX HM HB ⊢
 have c9:=R (H HM).box 9 rfl
 have q9:=zd (H HM).box 9 (by show 9 < 13; decide)
 have xu:Hid (Below B w (World.setCells W1 hj 9 [.bool true])):=zL (H HB) ya (H HM) 9 _
 have xQ:Hid (MS hj B (World.setCells W1 hj 9 [.bool true]) (.slice (some (U gb 0)) g.l.length cap) vd va { g with bg:=6 } t kd n0 dy l0):=bQ (H HM) 9 [.bool true] (by simp) rfl rfl (fun h=>absurd (show (6:Int) = 0 from h) (by decide))
 have xH:Hid (Bx (World.setCells W1 hj 9 [.bool true]) w.heap.size (yv 6 ck L ct F cq ci X cg id xi qty xj xh)):=aS (H HX) (bG hj w.heap.size (by omega) _ 9 W1)
 clear HX HM HB
 refine fI fun hR HK=>?_
 go_wp2_with fail
 refine H HK _ _ ?_
 clear HK
 change Code.wp _ _ _ _ (World.setCells W1 hj 9 [.bool true])
 generalize World.setCells W1 hj 9 [.bool true] = cp at xu xQ xH ⊢
 have uR:Hid (RdR Od.vs 6 cp (.slice (some (U gb 0)) g.l.length cap) g.l):=zK (H xQ).row (yN jk (by decide))
 have e0:=R (H xH) 0 rfl
 clear c9 q9
 go_wp2_with fail
 refine zk (RAA (fun f=>{ tmps:=#[J hj 0,.agg (yv 6 ck L ct F cq ci X cg id xi qty xj xh).toArray,Z,J w.heap.size 0,Z,J hj 0,J hj 0,J hj 9,J w.heap.size 0,I 6,.bool false,.bool false,Z,Z,Z,Z,Z,Z,Z,Z,Z,Z,Z,Z,Z,Z,Z,Z,Z,Z,Z,Z,Z,Z,Z,.bool false,.bool false,Z,Z,Z,Z,Z,Z,Z,Z,Z,Z,Z,Z,Z,Z,Z,Z,Z,Z,Z,Z,Z,Z,Z,Z,Z,Z,.bool false,.bool false,Z,Z,Z,Z,Z,Z,Z,Z,Z,Z,Z,Z,Z,Z,Z,Z,Z,Z,Z,.bool false,.bool false,Z,Z,Z,Z,.bool true,.bool true,f 0,f 1,f 2,f 3,f 4,f 5,f 6,f 7,f 8,f 9,f 10,f 11,f 12,f 13,f 14,Z,Z,Z,Z,Z,Z,Z,Z,Z,Z,Z,Z,Z,Z,Z,Z,Z,Z,Z,Z,Z,Z,Z,Z,Z,Z,Z,Z,Z,Z,Z,Z,Z,Z,Z,Z,Z,Z,Z,Z,Z,Z,Z,Z,Z,Z,Z,Z,Z,Z,Z,Z,Z,Z,Z,Z,Z,Z,Z,Z,Z,Z,Z,Z,Z,Z,Z,Z,Z,Z,Z,Z,Z,Z,Z,Z,Z,Z],defers:=[] }) (fun j v=>∀ u,([some (J hj 0),some (J hj 0),some (J hj 0),some (J hj 1),some (.slice (some (U gb 0)) g.l.length cap),some (J hj 0),some (J hj 0),some (J hj 1),some (.slice (some (U gb 0)) g.l.length cap),some (J w.heap.size 9),some (I id),some (I k),none,some (J hj 0),some (J hj 1),none]:List (Option Value))[j]? = some (some u)→v = u) 12 15 (U hj 1) (fun W v=>ORow W cp.heap.size v (g.l.take k ++ g.l.drop (k + 1))∧yn cp W) cp) (by kernel_rfl) ?_ ?_ ?_
 ·exact ⟨fun _=>Z,rfl,⟨fun j O=>by rw [yI] at O; split at O <;> simp at O,fun _=>⟨rfl,rfl,rfl,Nat.le_refl _,fun _ _=>rfl⟩,fun O=>by rw [yI] at O; split at O <;> simp at O,fun O=>by rw [yI] at O; split at O <;> simp at O⟩⟩
 ·rintro x fG hb ⟨f,rfl,K⟩ hx xN
  have xo:=zN xN hx (acyc _ (by kernel_rfl))
  obtain ⟨W0,⟨N,xz⟩,eY⟩:=K.z (xo 15 (by simp))
  have qd:=M (zv (H xQ) xz)
  have xG:=M ((H xu).trans (xz.mono (H xQ).base))
  have vv:=M (zS N (H xQ).base)
  clear K xo xN hx xz N
  dsimp only
  generalize f 0 = v0,f 1 = v1,f 2 = v2,f 3 = v3,f 4 = v4,f 5 = v5,f 6 = v6,f 7 = v7,f 8 = v8,f 9 = v9,f 10 = v10,f 11 = v11
  generalize f 12 = v12 at *
  generalize f 13 = v13,f 14 = v14
  subst eY
  go_end0
  refine H qm _ v12 vd (zL (H xG) ya (H qd) 1 [v12]) ?_
  rw [H uh,(H ux).1,(H ux).2.1,(H ux).2.2]
  exact ms_list (H qd) (H vv) (fun h=>absurd (show (6:Int) = 0 from h) (by decide))
 ·rintro x fG xn i op ⟨f,rfl,K⟩ V hx N xq D
  have xt:=M K
  have vr:i < 13→i ≠ 0→x[12]? = some false:=fun xI h0=>by
   rcases bB hx (show 12 < 16 by omega) with hq | uO
   ·exact hq
   ·exfalso
    have h4:=yf V 12 rfl uO 4 rfl
    have uS:=yf V 12 rfl uO 11 rfl
    have h3:=yf V 4 rfl h4 3 rfl
    have E:=yf V 3 rfl h3 2 rfl
    have Q:=yf V 2 rfl E 1 rfl
    have h8:=yf V 11 rfl uS 8 rfl
    have uV:=yf V 11 rfl uS 10 rfl
    have h7:=yf V 8 rfl h8 7 rfl
    have h6:=yf V 7 rfl h7 6 rfl
    have h5:=yf V 6 rfl h6 5 rfl
    have h9:=yf V 10 rfl uV 9 rfl
    rcases (by omega:i = 1 ∨ i = 2 ∨ i = 3 ∨ i = 4 ∨ i = 5 ∨ i = 6 ∨ i = 7 ∨ i = 8 ∨ i = 9 ∨ i = 10 ∨ i = 11 ∨ i = 12) with rfl | rfl | rfl | rfl | rfl | rfl | rfl | rfl | rfl | rfl | rfl | rfl
    ·exact absurd (Q.symm.trans xq) (by simp)
    ·exact absurd (E.symm.trans xq) (by simp)
    ·exact absurd (h3.symm.trans xq) (by simp)
    ·exact absurd (h4.symm.trans xq) (by simp)
    ·exact absurd (h5.symm.trans xq) (by simp)
    ·exact absurd (h6.symm.trans xq) (by simp)
    ·exact absurd (h7.symm.trans xq) (by simp)
    ·exact absurd (h8.symm.trans xq) (by simp)
    ·exact absurd (h9.symm.trans xq) (by simp)
    ·exact absurd (uV.symm.trans xq) (by simp)
    ·exact absurd (uS.symm.trans xq) (by simp)
    ·exact absurd (uO.symm.trans xq) (by simp)
  have n15:x[12]? = some false→x[15]? = some false:=fun uO=>by
   rcases bB hx (show 15 < 16 by omega) with hq | vQ
   ·exact hq
   ·exact absurd ((yf V 15 rfl vQ 12 rfl).symm.trans uO) (by simp)
  have xl:i < 13→i ≠ 0→∀ (p:Addr) u,cp.cell? p = some u→xn.cell? p = some u:=fun h h0 p u hu=>((K.b (vr h h0)).cell (yK cp _ hu)).trans hu
  match i,N with
  | 0,N | 1,N | 5,N =>
   obtain rfl:=yb N
   clear D K xl vr n15
   rw [if_pos (by rfl)];unfold Oper.wp;go_simp
   exact ⟨upd f _ (J hj 0),by simp [upd],zX (H xt) _ _ (yi rfl) (by decide) (by decide)⟩
  | 2,N =>
   obtain rfl:=yb N
   have g1:=K.c 1 (ye D 1 rfl) _ rfl
   clear D K xl vr n15
   rw [if_pos (by rfl)];unfold Oper.wp;go_simp
   exact ⟨upd f 2 (J hj 0),by simp [upd,g1],zX (H xt) 2 _ (yi rfl) (by decide) (by decide)⟩
  | 3,N =>
   obtain rfl:=yb N
   have g2:=K.c 2 (ye D 2 rfl) _ rfl
   clear D K xl vr n15
   rw [if_pos (by rfl)];unfold Oper.wp;go_simp
   exact ⟨upd f 3 (J hj 1),by simp [upd,g2],zX (H xt) 3 _ (yi rfl) (by decide) (by decide)⟩
  | 4,N =>
   obtain rfl:=yb N
   have g3:=K.c 3 (ye D 3 rfl) _ rfl
   have z:=xl (by omega) (by omega) (U hj 1) _ (R (H xQ).box 1 rfl)
   clear D K xl vr n15
   rw [if_pos (by rfl)];unfold Oper.wp;go_simp
   exact ⟨upd f 4 (.slice (some (U gb 0)) g.l.length cap),by simp [upd,g3],zX (H xt) 4 _ (yi rfl) (by decide) (by decide)⟩
  | 6,N =>
   obtain rfl:=yb N
   have g5:=K.c 5 (ye D 5 rfl) _ rfl
   clear D K xl vr n15
   rw [if_pos (by rfl)];unfold Oper.wp;go_simp
   exact ⟨upd f 6 (J hj 0),by simp [upd,g5],zX (H xt) 6 _ (yi rfl) (by decide) (by decide)⟩
  | 7,N =>
   obtain rfl:=yb N
   have g6:=K.c 6 (ye D 6 rfl) _ rfl
   clear D K xl vr n15
   rw [if_pos (by rfl)];unfold Oper.wp;go_simp
   exact ⟨upd f 7 (J hj 1),by simp [upd,g6],zX (H xt) 7 _ (yi rfl) (by decide) (by decide)⟩
  | 8,N =>
   obtain rfl:=yb N
   have g7:=K.c 7 (ye D 7 rfl) _ rfl
   have z:=xl (by omega) (by omega) (U hj 1) _ (R (H xQ).box 1 rfl)
   clear D K xl vr n15
   rw [if_pos (by rfl)];unfold Oper.wp;go_simp
   exact ⟨upd f 8 (.slice (some (U gb 0)) g.l.length cap),by simp [upd,g7],zX (H xt) 8 _ (yi rfl) (by decide) (by decide)⟩
  | 9,N =>
   obtain rfl:=yb N
   clear D K xl vr n15
   rw [if_pos (by rfl)];unfold Oper.wp;go_simp
   exact ⟨upd f 9 (J w.heap.size 9),by simp [upd],zX (H xt) 9 _ (yi rfl) (by decide) (by decide)⟩
  | 10,N =>
   obtain rfl:=yb N
   have g9:=K.c 9 (ye D 9 rfl) _ rfl
   have z:=xl (by omega) (by omega) (U w.heap.size 9) _ (R (H xH) 9 rfl)
   clear D K xl vr n15
   rw [if_pos (by rfl)];unfold Oper.wp;go_simp
   exact ⟨upd f 10 (I id),by simp [upd,g9],zX (H xt) 10 _ (yi rfl) (by decide) (by decide)⟩
  | 11,N =>
   obtain rfl:=yb N
   have g8:=K.c 8 (ye D 8 rfl) _ rfl
   have qp:=K.c 10 (ye D 10 rfl) _ rfl
   have kj:=vr (by omega) (by omega)
   have qD:=n15 kj
   have ql:=M (zh (H uR) (K.b kj) ya)
   clear D K xl vr n15
   rw [if_pos (by rfl)];unfold Oper.wp;go_simp
   refine (du _ g.l id xn (H ql)).mono ?_
   rw [H jt]
   rintro e w4 ⟨rfl,xw⟩
   exact ⟨upd f 11 (I k),by simp [upd,g8,qp],zX (ra_grow (H xt) kj qD xw) 11 _ (yi rfl) (by decide) (by decide)⟩
  | 12,N =>
   obtain rfl:=yb N
   have g4:=K.c 4 (ye D 4 rfl) _ rfl
   have vE:=K.c 11 (ye D 11 rfl) _ rfl
   have qD:=n15 xq
   have vn:=K.b xq
   have ql:=M (zh (H uR) vn ya)
   have xy:=M vn
   clear D K xl vr n15 vn
   rw [if_pos (by rfl)];unfold Oper.wp;go_simp
   obtain ⟨a9,c9,e9,-,aG⟩:=H ql
   obtain ⟨b9,o9,uy,oK,hcl9⟩:=aG xD
   rw [uy] at e9
   simp only [Value.slice.injEq,Option.some.injEq,Addr.mk.injEq,and_true,true_and] at e9
   obtain ⟨⟨rfl,rfl⟩,rfl⟩:=e9
   refine (l04Drop_any gb 0 cap g.l k xn hcl9 oK pa uq (yN jk (by decide))).mono ?_
   rintro e w4 ⟨v9,rfl,kO,xw⟩
   exact ⟨upd f 12 v9,by simp [upd,g4,vE],ra_app (H xt) xq qD (by decide) (fun u hu=>by cases hu) ⟨zS kO (H xy).size,(H xy).trans (xw.mono (H xy).size)⟩⟩
  | 13,N =>
   obtain rfl:=yb N
   have g0:=K.c 0 (ye D 0 rfl) _ rfl
   clear D K xl vr n15
   rw [if_pos (by rfl)];unfold Oper.wp;go_simp
   exact ⟨upd f 13 (J hj 0),by simp [upd,g0],zX (H xt) 13 _ (yi rfl) (by decide) (by decide)⟩
  | 14,N =>
   obtain rfl:=yb N
   have qJ:=K.c 13 (ye D 13 rfl) _ rfl
   clear D K xl vr n15
   rw [if_pos (by rfl)];unfold Oper.wp;go_simp
   exact ⟨upd f 14 (J hj 1),by simp [upd,qJ],zX (H xt) 14 _ (yi rfl) (by decide) (by decide)⟩
  | 15,N =>
   obtain rfl:=yb N
   have jf:=K.c 14 (ye D 14 rfl) _ rfl
   have kj:x[12]? = some true:=D ⟨12,.data⟩ (by simp) rfl
   obtain ⟨af,vn⟩:=K.a kj xq
   have vI:=M (zv (H xQ) vn)
   have y1:=R (H vI).box 1 rfl
   have q1:=zd (H vI).box 1 (by show 1 < 13; decide)
   obtain ⟨ga,gn,gc,xZ⟩:∃ ga gn gc,f 12 = .slice ga gn gc:=by
    obtain ⟨ga,gc,xZ⟩:=cA (zK af (by simp; omega))
    exact ⟨ga,_,gc,xZ⟩
   clear D K xl vr n15 af vn
   rw [if_pos (by rfl)];unfold Oper.wp;go_simp
   refine ⟨f,by simp [jf,xZ],?_⟩
   have:=ra_store (H xt) kj xq (by decide) (fun v u hu=>by cases hu)
   rw [xZ] at this
   exact this
  | i + 16,N=>simp at N
def ancS (l:List Oper) (s:List Nat):List Nat:=s ++ s.flatMap fun i=>match l[i]? with
 | some o=>(o.after.toList.filter fun e=>Region.binds .any e).map fun e=>e.on
 | none=>[]
def ancN (l:List Oper):Nat→List Nat→List Nat
 | 0,s=>s
 | n + 1,s=>ancN l n (ancS l s).eraseDups
theorem ancS_true {l:List Oper} {x:List Bool} (hc:Closed l x) {s:List Nat} (hs:∀ i ∈ s,x[i]? = some true):∀ i ∈ ancS l s,x[i]? = some true:=by
 intro i hi
 rcases List.mem_append.1 hi with h | h
 ·exact hs i h
 ·obtain ⟨k,hk,hm⟩:=List.mem_flatMap.1 h
  split at hm
  ·next o N =>
   obtain ⟨e,he,rfl⟩:=List.mem_map.1 hm
   obtain ⟨he1,he2⟩:=List.mem_filter.1 he
   exact hc k o N (hs k hk) e (by simpa using he1) he2
  ·simp at hm
theorem ancN_true {l:List Oper} {x:List Bool} (hc:Closed l x):∀ (n:Nat) (s:List Nat),(∀ i ∈ s,x[i]? = some true)→∀ i ∈ ancN l n s,x[i]? = some true
 | 0,s,hs=>hs
 | n + 1,s,hs=>ancN_true hc n _ (fun i hi=>ancS_true hc hs i (List.mem_eraseDups.1 hi))
theorem zU {l:List Oper} {x:List Bool} (hc:Closed l x) (d i n:Nat) (hB:(ancN l d [n]).contains i = true) (hx:x.length = l.length) (hn:n < l.length) (hi:x[i]? = some false):x[n]? = some false:=by
 rcases bB hx hn with h | h
 ·exact h
 ·have:=ancN_true hc d [n] (by simpa using h) i (by simpa using hB)
  rw [hi] at this; cases this
section
variable {C:World→Nat→Value→Prop} {n:Nat} {h1:(Nat→Value)→World→Prop} {base W W':World} {x:List Bool} {f:Nat→Value}
end
structure R4 (C:Nat→Value→Prop) (p:Addr) (B0:World) (cs:List Od) (t:Od) (x:List Bool) (f:Nat→Value) (W:World):Prop where
 c:∀ j,x[j]? = some true→C j (f j)
 bel:x[15]? = some false→Below B0.heap.size B0 W
 m0:x[1]? = some true→x[6]? = some false→ORow W B0.heap.size (f 1) []
 m2:x[6]? = some true→x[12]? = some false→ORow W B0.heap.size (f 6) cs
 m4:x[11]? = some true→x[12]? = some false→∃ b,f 11 = .slice (some ⟨b,0,none⟩) 1 1∧b < W.heap.size∧W.rangeAt b 0 t.vs∧(x[1]? = some true→x[6]? = some false→(f 1).ownBlock ≠ some b)
 m5:x[12]? = some true→x[15]? = some false→ORow W B0.heap.size (f 12) (cs ++ [t])
 mz:x[15]? = some true→∃ W0,(ORow W0 B0.heap.size (f 12) (cs ++ [t])∧Below B0.heap.size B0 W0)∧W = W0.setCell p (f 12)
def R4A (cl:(Nat→Value)→Act) (C:Nat→Value→Prop) (p:Addr) (B0:World) (cs:List Od) (t:Od) (x:List Bool) (fG:Act) (W:World):Prop:=∃ f,fG = cl f∧R4 C p B0 cs t x f W
section
variable {C:Nat→Value→Prop} {p:Addr} {B0 W W':World} {cs:List Od} {t:Od} {x:List Bool} {f:Nat→Value}
theorem r4_grow (h:R4 C p B0 cs t x f W) (n:x[15]? = some false) (Y:yn W W'):R4 C p B0 cs t x f W' :=
 ⟨h.c,fun _=>(h.bel n).trans (Y.mono (h.bel n).size),fun a b=>zM (h.m0 a b) Y,fun a b=>zM (h.m2 a b) Y,fun a b=>by
  obtain ⟨b',Q,E,h4,h5⟩:=h.m4 a b
  exact ⟨b',Q,yJ E Y.size,zc h4 Y E,h5⟩,fun a b=>zM (h.m5 a b) Y,fun a=>by rw [n] at a; cases a⟩
theorem cE (h:R4 C p B0 cs t x f W) (i:Nat) (v:Value) (hv:C i v) (hi:i ≠ 1∧i ≠ 6∧i ≠ 11∧i ≠ 12∧i ≠ 15):R4 C p B0 cs t (x.set i true) (upd f i v) W:=by
 obtain ⟨Q,h6,uS,uO,vQ⟩:=hi
 refine ⟨zB h.c hv,?_,?_,?_,?_,?_,?_⟩ <;> simp only [gq Q,gq h6,gq uS,gq uO,gq vQ,zl f v Q.symm,zl f v h6.symm,zl f v uS.symm,zl f v uO.symm]
 ·exact h.bel
 ·exact h.m0
 ·exact h.m2
 ·exact h.m4
 ·exact h.m5
 ·exact h.mz
theorem r4_1 (h:R4 C p B0 cs t x f W) (n:x[15]? = some false) (hc:∀ v,C 1 v):R4 C p B0 cs t (x.set 1 true) (upd f 1 (.slice (some (U W.heap.size 0)) 0 0)) (W.alloc (A #[] 78)):=by
 have hg:=r4_grow h n ((Below.refl W.heap.size W).alloc ya (A #[] 78))
 refine ⟨zB hg.c (hc _),fun _=>hg.bel n,?_,?_,?_,?_,?_⟩
 ·intro _ _; rw [zr]; exact World.ownsRow_made W #[] 0 (h.bel n).size (by decide) rfl
 ·rw [gq (by decide),gq (by decide),zl _ _ (by decide)]; exact hg.m2
 ·intro hh4 hh5
  rw [gq (by decide)] at hh4 hh5
  obtain ⟨b,Q,E,h4,h5⟩:=hg.m4 hh4 hh5
  obtain ⟨b',e1,e2,_⟩:=h.m4 hh4 hh5
  rw [Q] at e1
  simp only [Value.slice.injEq,Option.some.injEq,Addr.mk.injEq,and_true] at e1
  subst e1
  refine ⟨b,by rw [zl _ _ (by decide)]; exact Q,E,h4,fun _ _ e=>?_⟩
  rw [zr] at e
  simp [Value.ownBlock] at e
  omega
 ·rw [gq (by decide),gq (by decide),zl _ _ (by decide)]; exact hg.m5
 ·intro e; rw [gq (by decide),n] at e; cases e
theorem r4_6 (h:R4 C p B0 cs t x f W) (n:x[15]? = some false) (hh0:x[1]? = some true) (hh2:x[6]? = some false) (hh5:x[12]? = some false) (hc:∀ v,C 6 v) {v':Value} (N:ORow W' B0.heap.size v' cs) (hg:W.grownBy W' (f 1).ownBlock):R4 C p B0 cs t (x.set 6 true) (upd f 6 v') W':=by
 refine ⟨zB h.c (hc _),fun _=>(h.bel n).grown hg (h.bel n).size (fun k hk=>((h.m0 hh0 hh2).lt k hk).1),?_,?_,?_,?_,?_⟩
 ·intro _ e; rw [gqs hh2] at e; cases e
 ·intro _ _; rw [zr]; exact N
 ·intro hh4 _
  rw [gq (by decide)] at hh4
  obtain ⟨b,Q,E,h4,h5⟩:=h.m4 hh4 hh5
  refine ⟨b,by rw [zl _ _ (by decide)]; exact Q,yJ E hg.size,zw h4 hg E (fun e=>h5 hh0 hh2 e.symm),fun _ e=>?_⟩
  rw [gqs hh2] at e; cases e
 ·intro e; rw [gq (by decide),hh5] at e; cases e
 ·intro e; rw [gq (by decide),n] at e; cases e
theorem r4_11 (h:R4 C p B0 cs t x f W) (n:x[15]? = some false) (hh4:x[11]? = some false) (hc:∀ v,C 11 v):R4 C p B0 cs t (x.set 11 true) (upd f 11 (.slice (some (U W.heap.size 0)) 1 1)) (W.alloc (Obj.cells t.vs.toArray 78)):=by
 have hg:=r4_grow h n ((Below.refl W.heap.size W).alloc ya (Obj.cells t.vs.toArray 78))
 refine ⟨zB hg.c (hc _),fun _=>hg.bel n,?_,?_,?_,?_,?_⟩
 ·rw [gq (by decide),gq (by decide),zl _ _ (by decide)]; exact hg.m0
 ·rw [gq (by decide),gq (by decide),zl _ _ (by decide)]; exact hg.m2
 ·intro _ _
  refine ⟨W.heap.size,zr _ _ _,by rw [zi]; omega,zn W t.vs _,fun hh0 hh2 e=>?_⟩
  rw [gq (by decide)] at hh0 hh2
  rw [zl _ _ (by decide)] at e
  have:=((h.m0 hh0 hh2).lt _ e).2
  omega
 ·rw [gq (by decide),gq (by decide),zl _ _ (by decide)]; exact hg.m5
 ·intro e; rw [gq (by decide),n] at e; cases e
theorem r4_12 (h:R4 C p B0 cs t x f W) (n:x[15]? = some false) (hh2:x[6]? = some true) (hh5:x[12]? = some false) (hc:∀ v,C 12 v) {v':Value} (N:ORow W' B0.heap.size v' (cs ++ [t])) (hg:W.grownBy W' (f 6).ownBlock):R4 C p B0 cs t (x.set 12 true) (upd f 12 v') W':=by
 refine ⟨zB h.c (hc _),fun _=>(h.bel n).grown hg (h.bel n).size (fun k hk=>((h.m2 hh2 hh5).lt k hk).1),?_,?_,?_,?_,?_⟩
 ·intro _ e; rw [gq (by decide),hh2] at e; cases e
 ·intro _ e; rw [gqs hh5] at e; cases e
 ·intro _ e; rw [gqs hh5] at e; cases e
 ·intro _ _; rw [zr]; exact N
 ·intro e; rw [gq (by decide),n] at e; cases e
theorem r4_15 (h:R4 C p B0 cs t x f W) (n:x[15]? = some false) (uO:x[12]? = some true) (h6:x[6]? = some true) (hc:∀ v,C 15 v):R4 C p B0 cs t (x.set 15 true) f (W.setCell p (f 12)):=by
 refine ⟨fun j O=>?_,?_,?_,?_,?_,?_,fun _=>⟨W,⟨h.m5 uO n,h.bel n⟩,rfl⟩⟩
 ·by_cases hjm:j = 15
  ·subst hjm; exact hc _
  ·rw [gq (fun e=>hjm e.symm)] at O; exact h.c j O
 ·intro e; rw [gqs n] at e; cases e
 ·intro _ e; rw [gq (by decide),h6] at e; cases e
 ·intro _ e; rw [gq (by decide),uO] at e; cases e
 ·intro _ e; rw [gq (by decide),uO] at e; cases e
 ·intro _ e; rw [gqs n] at e; cases e
end
theorem take_4 {hj B:Nat} {vl vd va:Value} {g:Gr} {t:Od} {kd n0:Int} {dy l0:List Od} (ck L ct F cq ci:Int) (X:Nat) (cg:ByteArray) (id xi qty xj xh:Int) (w:World) (h:MS hj B w vl vd va g t kd n0 dy l0) (hi:GI g) (hm:MR g t kd dy) (he:okE ⟨4,⟨ck,L,ct,F,cq,ci,X,cg⟩,id,xi,qty,xj,xh⟩ = true) (hr:zD g ⟨4,⟨ck,L,ct,F,cq,ci,X,cg⟩,id,xi,qty,xj,xh⟩ = 0):Calls Tryz.prog 52 #[J hj 0,.agg (yv 4 ck L ct F cq ci X cg id xi qty xj xh).toArray] w fun x w'=>TakE hj B va n0 l0 g t kd dy ⟨4,⟨ck,L,ct,F,cq,ci,X,cg⟩,id,xi,qty,xj,xh⟩ w x w':=by
 have hsf:=sfl
 have hO:=h.lt
 have vV:=h.base
 have qm:Hid (∀ w' vS vh,Below B w w'→MS hj B w' vS vh va (aQ g ⟨4,⟨ck,L,ct,F,cq,ci,X,cg⟩,id,xi,qty,xj,xh⟩) (tkM g t ⟨4,⟨ck,L,ct,F,cq,ci,X,cg⟩,id,xi,qty,xj,xh⟩) (kdM kd ⟨4,⟨ck,L,ct,F,cq,ci,X,cg⟩,id,xi,qty,xj,xh⟩) n0 (dyM g dy ⟨4,⟨ck,L,ct,F,cq,ci,X,cg⟩,id,xi,qty,xj,xh⟩) l0→TakE hj B va n0 l0 g t kd dy ⟨4,⟨ck,L,ct,F,cq,ci,X,cg⟩,id,xi,qty,xj,xh⟩ w (.returned (.tuple #[])) w'):=fun w' vS vh Q E=>⟨rfl,Q,vS,vh,E⟩
 obtain ⟨h0,jH⟩:=rule45 (e:=⟨4,⟨ck,L,ct,F,cq,ci,X,cg⟩,id,xi,qty,xj,xh⟩) (.inl rfl) hr
 have kU:t = g.tk:=hm.same jH
 have uh:Hid (aQ g ⟨4,⟨ck,L,ct,F,cq,ci,X,cg⟩,id,xi,qty,xj,xh⟩ = { g with l:=g.l ++ [t],tk:={ g.tk with left:=0 } }):=by show _ = _; rw [step4 rfl]; simp only [begG]; rw [if_neg (by omega),kU]
 have ux:Hid (tkM g t ⟨4,⟨ck,L,ct,F,cq,ci,X,cg⟩,id,xi,qty,xj,xh⟩ = zOd∧kdM kd ⟨4,⟨ck,L,ct,F,cq,ci,X,cg⟩,id,xi,qty,xj,xh⟩ = kd∧dyM g dy ⟨4,⟨ck,L,ct,F,cq,ci,X,cg⟩,id,xi,qty,xj,xh⟩ = dy):=⟨rfl,rfl,rfl⟩
 have hbn:(g.bg != 0) = true:=by simp [h0]
 have pG:Hid (g.bg ≠ 0):=by show _ ≠ _; omega
 have jk:=hi.len
 obtain ⟨la,lc,rfl⟩:=cA (zK h.row (yN jk (by decide)))
 obtain ⟨i0,vA,uL,uM,uF⟩:=info_parts Tryz.infoOrder
 clear h0 jH kU
 generalize TakE hj B va n0 l0 g t kd dy ⟨4,⟨ck,L,ct,F,cq,ci,X,cg⟩,id,xi,qty,xj,xh⟩ w = C at qm ⊢
 obtain ⟨xz,HX⟩:=fJ w (yv 4 ck L ct F cq ci X cg id xi qty xj xh) 52
 have HM:=M (zv h xz)
 have HB:=M (xz.mono vV)
 clear h xz hi hm he hr
 go_enter Tryz.func52,Tryz.ntmps52
 refine fI fun hR HK=>?_
 go_wp2_with fail
 refine H HK _ _ ?_
 clear HK
 generalize (w.alloc (A (yv 4 ck L ct F cq ci X cg id xi qty xj xh).toArray 52)) = W1 at HX HM HB ⊢
 have c9:=R (H HM).box 9 rfl
 have q9:=zd (H HM).box 9 (by show 9 < 13; decide)
 have xu:Hid (Below B w (World.setCells W1 hj 9 [.bool true])):=zL (H HB) ya (H HM) 9 _
 have xQ:Hid (MS hj B (World.setCells W1 hj 9 [.bool true]) (.slice la g.l.length lc) vd va g t kd n0 dy l0):=bQ (H HM) 9 [.bool true] (by simp) (by simp [msV,hbn]) rfl (fun h=>absurd h (H pG))
 have e0:(World.setCells W1 hj 9 [.bool true]).cell? (U w.heap.size 0) = some (I 4):=R (aS (H HX) (bG hj w.heap.size (by omega) _ 9 W1)) 0 rfl
 clear hbn HX HM HB
 refine fI fun hR HK=>?_
 go_wp2_with fail
 refine H HK _ _ ?_
 clear HK
 change Code.wp _ _ _ _ (World.setCells W1 hj 9 [.bool true])
 generalize World.setCells W1 hj 9 [.bool true] = cp at xu xQ e0 ⊢
 clear c9 q9
 go_wp2_with fail
 refine zk (R4A (fun f=>{ tmps:=#[J hj 0,.agg (yv 4 ck L ct F cq ci X cg id xi qty xj xh).toArray,Z,J w.heap.size 0,Z,J hj 0,J hj 0,J hj 9,J w.heap.size 0,I 4,.bool false,.bool false,Z,Z,Z,Z,Z,Z,Z,Z,Z,Z,Z,Z,Z,Z,Z,Z,Z,Z,Z,Z,Z,Z,Z,.bool false,.bool false,Z,Z,Z,Z,Z,Z,Z,Z,Z,Z,Z,Z,Z,Z,Z,Z,Z,Z,Z,Z,Z,Z,Z,Z,Z,Z,.bool true,.bool true,f 0,f 1,f 2,f 3,f 4,f 5,f 6,f 7,f 8,f 9,f 10,f 11,f 12,f 13,f 14,Z,Z,Z,Z,Z,Z,Z,Z,Z,Z,Z,Z,Z,Z,Z,Z,Z,Z,Z,Z,Z,Z,Z,Z,Z,Z,Z,Z,Z,Z,Z,Z,Z,Z,Z,Z,Z,Z,Z,Z,Z,Z,Z,Z,Z,Z,Z,Z,Z,Z,Z,Z,Z,Z,Z,Z,Z,Z,Z,Z,Z,Z,Z,Z,Z,Z,Z,Z,Z,Z,Z,Z,Z,Z,Z,Z,Z,Z,Z,Z,Z,Z,Z,Z,Z,Z,Z,Z,Z,Z,Z,Z,Z,Z,Z,Z,Z,Z,Z,Z,Z,Z,Z,Z,Z],defers:=[] }) (fun j v=>∀ u,([some (J hj 0),none,some (J hj 0),some (J hj 0),some (J hj 1),some (.slice la g.l.length lc),none,some (J hj 0),some (J hj 0),some (J hj 2),some (.agg (yw t.id t.side t.ticks t.left t.life t.tag).toArray),none,none,some (J hj 0),some (J hj 1),none]:List (Option Value))[j]? = some (some u)→v = u) (U hj 1) cp g.l t) (by kernel_rfl) ?_ ?_ ?_
 ·have vL:∀ j,(List.replicate 16 false)[j]? = some true→False:=fun j O=>by rw [yI] at O; split at O <;> simp at O
  exact ⟨fun _=>Z,rfl,⟨fun j O=>(vL j O).elim,fun _=>⟨rfl,rfl,rfl,Nat.le_refl _,fun _ _=>rfl⟩,fun h=>(vL _ h).elim,fun h=>(vL _ h).elim,fun h=>(vL _ h).elim,fun h=>(vL _ h).elim,fun h=>(vL _ h).elim⟩⟩
 ·rintro x fG hb ⟨f,rfl,K⟩ hx xN
  have xo:=zN xN hx (acyc _ (by kernel_rfl))
  obtain ⟨W0,⟨N,xz⟩,eY⟩:=K.mz (xo 15 (by simp))
  have qd:=M (zv (H xQ) xz)
  have xG:=M ((H xu).trans (xz.mono (H xQ).base))
  have vv:=M (zS N (H xQ).base)
  clear K xo xN hx xz N
  dsimp only
  generalize f 0 = v0,f 1 = v1,f 2 = v2,f 3 = v3,f 4 = v4,f 5 = v5,f 6 = v6,f 7 = v7,f 8 = v8,f 9 = v9,f 10 = v10,f 11 = v11
  generalize f 12 = v12 at *
  generalize f 13 = v13,f 14 = v14
  have vz:Hid (MS hj B (W0.setCell (U hj 1) v12) v12 vd va { g with l:=g.l ++ [t] } t kd n0 dy l0):=ms_list (H qd) (H vv) (fun h=>absurd h (H pG))
  have ug:Hid (Below B w (W0.setCell (U hj 1) v12)):=zL (H xG) ya (H qd) 1 [v12]
  rw [← eY] at vz ug
  clear eY qd xG vv
  have c2:=R (H vz).box 2 rfl
  have q2:=zd (H vz).box 2 (by show 2 < 13; decide)
  have c3:=R (H vz).box 3 rfl
  have q3:=zd (H vz).box 3 (by show 3 < 13; decide)
  have c4:=R (H vz).box 4 rfl
  have q4:=zd (H vz).box 4 (by show 4 < 13; decide)
  have c5:=R (H vz).box 5 rfl
  have q5:=zd (H vz).box 5 (by show 5 < 13; decide)
  have c6:=R (H vz).box 6 rfl
  have q6:=zd (H vz).box 6 (by show 6 < 13; decide)
  have c7:=R (H vz).box 7 rfl
  have q7:=zd (H vz).box 7 (by show 7 < 13; decide)
  go_wp2_with fail
  go_end0
  refine H qm _ v12 vd (zL (H ug) ya (H vz) 2 (yw 0 0 0 0 0 ⟨#[]⟩)) ?_
  rw [H uh,(H ux).1,(H ux).2.1,(H ux).2.2]
  exact bQ (H vz) 2 (yw 0 0 0 0 0 ⟨#[]⟩) (by simp) rfl rfl (fun h=>absurd h (H pG))
 ·rintro x fG xn i op ⟨f,rfl,K⟩ V hx N xq D
  have xt:=M K
  match i,N with
  | 0,N | 2,N | 7,N =>
   obtain rfl:=yb N
   clear D K V
   rw [if_pos (by rfl)];unfold Oper.wp;go_simp
   exact ⟨upd f _ (J hj 0),by simp [upd],cE (H xt) _ _ (yi rfl) (by decide)⟩
  | 1,N =>
   obtain rfl:=yb N
   have qD:x[15]? = some false:=zU V 16 1 15 (by kernel_rfl) hx (by simp) xq
   clear D K V
   rw [if_pos (by rfl)];unfold Oper.wp;go_simp
   exact ⟨upd f 1 (.slice (some (U xn.heap.size 0)) 0 0),by simp [upd],r4_1 (H xt) qD (fun v u hu=>by cases hu)⟩
  | 3,N =>
   obtain rfl:=yb N
   have g2:=K.c 2 (ye D 2 rfl) _ rfl
   clear D K V
   rw [if_pos (by rfl)];unfold Oper.wp;go_simp
   exact ⟨upd f 3 (J hj 0),by simp [upd,g2],cE (H xt) 3 _ (yi rfl) (by decide)⟩
  | 4,N =>
   obtain rfl:=yb N
   have g3:=K.c 3 (ye D 3 rfl) _ rfl
   clear D K V
   rw [if_pos (by rfl)];unfold Oper.wp;go_simp
   exact ⟨upd f 4 (J hj 1),by simp [upd,g3],cE (H xt) 4 _ (yi rfl) (by decide)⟩
  | 5,N =>
   obtain rfl:=yb N
   have g4:=K.c 4 (ye D 4 rfl) _ rfl
   have qD:x[15]? = some false:=zU V 16 5 15 (by kernel_rfl) hx (by simp) xq
   have jV:=M (zv (H xQ) (K.bel qD))
   have z1:=R (H jV).box 1 rfl
   clear D K V
   rw [if_pos (by rfl)];unfold Oper.wp;go_simp
   exact ⟨upd f 5 (.slice la g.l.length lc),by simp [upd,g4],cE (H xt) 5 _ (yi rfl) (by decide)⟩
  | 6,N =>
   obtain rfl:=yb N
   have qD:x[15]? = some false:=zU V 16 6 15 (by kernel_rfl) hx (by simp) xq
   have k1:x[1]? = some true:=D ⟨1,.data⟩ (by simp) rfl
   have g5:=K.c 5 (ye D 5 rfl) _ rfl
   have kj:x[12]? = some false:=zU V 16 6 12 (by kernel_rfl) hx (by simp) xq
   have HO0:=M (K.m0 k1 xq)
   have vn:=K.bel qD
   have HROW:=M (zM (H xQ).row vn)
   have HRDV:Hid (∀ ad,la = some ad→∀ j u,(g.l.flatMap Od.vs)[j]? = some u→xn.cell? (ad.add j) = some u):=fun ad had=>by
    have h:=zK (H HROW) (yN jk (by decide))
    rw [had] at h
    exact rd_src h
   clear D K V
   rw [if_pos (by rfl)]
   rcases oRow_sl (H HROW) with h | ⟨ad,nn,cc,h⟩
   ·simp only [Value.slice.injEq] at h
    have hL:g.l = []:=List.length_eq_zero_iff.1 h.2.1
    refine eZ (.tmp 66) (.tmp 70) 32 rfl cp.heap.size 78 i0 6 Tryz.underlying32 vA (f 1) 0 [] rfl (H HO0) (by show f 5 = _; rw [g5,h.1,h.2.1,h.2.2]) ?_
    exact ⟨upd f 6 (f 1),rfl,r4_6 (H xt) qD k1 xq kj (fun v u hu=>by cases hu) (by rw [hL]; exact H HO0) (yR _ _)⟩
   ·simp only [Value.slice.injEq] at h
    refine wp_append_own xn (.tmp 66) (.tmp 70) 32 rfl cp.heap.size 78 i0 _ 6 56 Tryz.underlying32 vA uL uM uF rfl (by decide) (f 1) 0 [] rfl (H HO0) ad g.l.length lc (g.l.flatMap Od.vs) (by show f 5 = _; rw [g5,h.1]) (by rw [zZ Od.len]) (H HRDV ad h.1) (cz g.l) (by unfold maxLen; omega) (by omega) vn.size ?_
    intro v' w' xR vG _
    refine ⟨upd f 6 v',rfl,r4_6 (H xt) qD k1 xq kj (fun v u hu=>by cases hu) ?_ vG⟩
    show w'.ownsRow _ _ _ _ g.l.length _
    simpa using xR
  | 8,N =>
   obtain rfl:=yb N
   have g7:=K.c 7 (ye D 7 rfl) _ rfl
   clear D K V
   rw [if_pos (by rfl)];unfold Oper.wp;go_simp
   exact ⟨upd f 8 (J hj 0),by simp [upd,g7],cE (H xt) 8 _ (yi rfl) (by decide)⟩
  | 9,N =>
   obtain rfl:=yb N
   have g8:=K.c 8 (ye D 8 rfl) _ rfl
   clear D K V
   rw [if_pos (by rfl)];unfold Oper.wp;go_simp
   exact ⟨upd f 9 (J hj 2),by simp [upd,g8],cE (H xt) 9 _ (yi rfl) (by decide)⟩
  | 10,N =>
   obtain rfl:=yb N
   have g9:=K.c 9 (ye D 9 rfl) _ rfl
   have qD:x[15]? = some false:=zU V 16 10 15 (by kernel_rfl) hx (by simp) xq
   have jV:=M (zv (H xQ) (K.bel qD))
   have z2:=R (H jV).box 2 rfl
   have z3:=R (H jV).box 3 rfl
   have z4:=R (H jV).box 4 rfl
   have z5:=R (H jV).box 5 rfl
   have z6:=R (H jV).box 6 rfl
   have z7:=R (H jV).box 7 rfl
   clear D K V
   rw [if_pos (by rfl)];unfold Oper.wp;go_simp
   exact ⟨upd f 10 (.agg (yw t.id t.side t.ticks t.left t.life t.tag).toArray),by simp [upd,g9],cE (H xt) 10 _ (yi rfl) (by decide)⟩
  | 11,N =>
   obtain rfl:=yb N
   have qp:=K.c 10 (ye D 10 rfl) _ rfl
   have qD:x[15]? = some false:=zU V 16 11 15 (by kernel_rfl) hx (by simp) xq
   clear D K V
   rw [if_pos (by rfl)];unfold Oper.wp;go_simp
   exact ⟨upd f 11 (.slice (some (U xn.heap.size 0)) 1 1),by simp [upd,qp],r4_11 (H xt) qD xq (fun v u hu=>by cases hu)⟩
  | 12,N =>
   obtain rfl:=yb N
   have qD:x[15]? = some false:=zU V 16 12 15 (by kernel_rfl) hx (by simp) xq
   have k6:x[6]? = some true:=D ⟨6,.data⟩ (by simp) rfl
   obtain ⟨b4,vE,ui,xM,-⟩:=K.m4 (ye D 11 rfl) xq
   have kw:=M (K.m2 k6 xq)
   have vn:=K.bel qD
   have qP:Hid (∀ j u,t.vs[j]? = some u→xn.cell? (((U b4 0):Addr).add j) = some u):=fun j u hu=>by
    have:=xM j u hu
    rw [Addr.add_mid]; exact this
   clear D K V xM
   rw [if_pos (by rfl)]
   refine wp_append_own xn (.tmp 71) (.tmp 76) 32 rfl cp.heap.size 78 i0 _ 6 56 Tryz.underlying32 vA uL uM uF rfl (by decide) (f 6) g.l.length (g.l.flatMap Od.vs) rfl (H kw) (U b4 0) 1 1 t.vs (by show f 11 = _; exact vE) rfl (H qP) (one_od t) (by unfold maxLen; omega) (by omega) vn.size ?_
   intro v' w' xR vG _
   refine ⟨upd f 12 v',rfl,r4_12 (H xt) qD k6 xq (fun v u hu=>by cases hu) ?_ vG⟩
   show w'.ownsRow _ _ _ _ (g.l ++ [t]).length _
   rw [yP,List.flatMap_append]
   simpa using xR
  | 13,N =>
   obtain rfl:=yb N
   have g0:=K.c 0 (ye D 0 rfl) _ rfl
   clear D K V
   rw [if_pos (by rfl)];unfold Oper.wp;go_simp
   exact ⟨upd f 13 (J hj 0),by simp [upd,g0],cE (H xt) 13 _ (yi rfl) (by decide)⟩
  | 14,N =>
   obtain rfl:=yb N
   have qJ:=K.c 13 (ye D 13 rfl) _ rfl
   clear D K V
   rw [if_pos (by rfl)];unfold Oper.wp;go_simp
   exact ⟨upd f 14 (J hj 1),by simp [upd,qJ],cE (H xt) 14 _ (yi rfl) (by decide)⟩
  | 15,N =>
   obtain rfl:=yb N
   have jf:=K.c 14 (ye D 14 rfl) _ rfl
   have kj:x[12]? = some true:=D ⟨12,.data⟩ (by simp) rfl
   have k6:x[6]? = some true:=yf V 12 rfl kj 6 rfl
   have vI:=M (zv (H xQ) (K.bel xq))
   have y1:=R (H vI).box 1 rfl
   have q1:=zd (H vI).box 1 (by show 1 < 13; decide)
   obtain ⟨ga,gc,xZ⟩:=cA (zK (K.m5 kj xq) (by simp; omega))
   generalize (g.l ++ [t]).length = gn at xZ
   clear D K V
   rw [if_pos (by rfl)];unfold Oper.wp;go_simp
   refine ⟨f,by simp [jf,xZ],?_⟩
   have:=r4_15 (H xt) xq kj k6 (fun v u hu=>by cases hu)
   rw [xZ] at this
   exact this
  | i + 16,N=>simp at N
end Go.Proofs.YtnphbkgfjanmgaaGreatDoor
