/-
  An order reduced, and one cancelled, by the engine: proved by walking the methods.
-/
import Derived.Test.YtbakanofkghmiaaGreatUj25
set_option linter.unusedVariables false
set_option maxHeartbeats 6400000
set_option maxRecDepth 100000
namespace Go.Proofs.YtbakanofkghmiaaGreat
open Go.RowKit
theorem ens_took {mb B Bo:Nat} {W w':World} {gv:Value} {gs:List Value} {gl:List (List Ev)} {next:Int} {vq vw:Value} {l l':List Od} {t:Tot} {vo:Value} {ts:List Ev} (h:EnS mb B Bo W gv gs gl next vq l t vo ts) (hc:w'.cell? (J mb 2) = some vw) (Z:ORow w' B vw l') (ht:TookAt mb 1 vq.ownBlock W w'):EnS mb B Bo w' gv gs gl next vw l' t vo ts:=by
 have xo:∀ j,j ≠ 2→w'.cell? (J mb j) = W.cell? (J mb j):=fun j K=>ht.cell j (by omega)
 refine ⟨?_,fun j K=>⟨?_,?_⟩,aW h.grow ht (zl h.grow h.box (by decide)) (zC h.grow h.orow (by decide)),h.glen,?_,h.glt,Z,aW h.erow ht (zl h.erow h.box (by decide)) (zC h.erow h.orow (by decide)),?_,h.bo,yL h.le ht.size⟩
 ·intro j u K
  by_cases D:j = 2
  ·subst D; cases K; rw [Nat.zero_add]; exact hc
  ·rw [Nat.zero_add,xo j D]
   have:W.cell? (J mb (0 + j)) = some u:=h.cells j u (by
    match j,K with
    | 0,K | 1,K | 3,K | 4,K | 5,K | 6,K | 7,K | 8,K | 9,K | 10,K | 11,K=>exact K
    | 2,K=>exact absurd rfl D
    | j + 12,K=>simp at K)
   rwa [Nat.zero_add] at this
 ·by_cases D:j = 2
  ·subst D; rw [Nat.zero_add,hc]; rfl
  ·rw [Nat.zero_add,xo j D]; have:=(h.there j K).1; rwa [Nat.zero_add] at this
 ·rw [Nat.zero_add,ht.frozen]; have:=(h.there j K).2; rwa [Nat.zero_add] at this
 ·intro i g es hg vQ
  have hr:=h.geach i g es hg vQ
  exact aW hr ht (zl hr h.box (by decide)) (zC hr h.orow (by decide))
 ·obtain ⟨xp,O⟩:=h.box
  exact ht.kind _ _ _ O
theorem zT {mb B Bo:Nat} {W w':World} {gv:Value} {gs:List Value} {gl:List (List Ev)} {next:Int} {vq:Value} {l:List Od} {t:Tot} {vo:Value} {ts:List Ev} (h:EnS mb B Bo W gv gs gl next vq l t vo ts) (O:ym W w'):EnS mb B Bo w' gv gs gl next vq l t vo ts :=
 ens_took h ((O.cell (p:=(J mb 2)) h.lt).trans (h.cells 2 _ rfl)) (zj h.orow O) (bz (aO O hb) h.lt (zl h.orow h.box (by decide)))
theorem row_hereE {W:World} {B g n cp i:Nat} {l:List Od} {o:Od} (h:ORow W B (.slice (some (J g 0)) n cp) l) (hl:l.length ≤ 1000) (hi:l[i]? = some o):W.rangeAt g (i * 6) o.vs∧∀ j,j < 6→W.frozen? (J g (i * 6 + j)) = false:=by
 obtain ⟨a',c',e,_,hc⟩:=zR h (by omega)
 obtain ⟨b',ux,e2,_,hc⟩:=hc (by rintro rfl; simp at hi)
 rw [e2] at e
 simp only [Value.slice.injEq,Option.some.injEq,Addr.mk.injEq,and_true] at e
 obtain ⟨⟨rfl,rfl⟩,-⟩:=e
 refine ⟨by simpa using hc i o hi,fun j K=>?_⟩
 rcases h.2 with ⟨G,_⟩ | ⟨g',pq,xp,G,_,h3,h4,_,h5,_⟩
 ·cases G
 ·simp only [Value.slice.injEq,Option.some.injEq,Addr.mk.injEq,and_true] at G
  obtain ⟨rfl,-⟩:=G
  have hil:=(yE.1 hi).1
  have:=(cC h3 hb (i * 6 + j) (by rw [h5]; omega)).2
  rwa [Nat.zero_add] at this
def CRd (mb S g n A k:Nat) (next id qty:Int):Nat→Value→Prop
 | 0,v | 1,v | 2,v | 6,v | 7,v | 8,v=>v = I mb 0
 | 3,v | 9,v=>v = I mb 1
 | 4,v=>v = I mb 2
 | 5,v=>v = .slice (some (J g 0)) n A
 | 10,v=>v = .agg #[H next,.slice (some (J g 0)) n A]
 | 11,v=>v = I S 0
 | 12,v=>v = H id
 | 13,v=>v = H k
 | 14,v=>v = I S 1
 | 15,v=>v = H qty
 | 16,v=>v = I g (k * 6)
 | 17,v=>v = I g (k * 6 + 3)
 | _,_=>True
theorem reduceE_any {mb B Bo:Nat} {gv:Value} {gs:List Value} {gl:List (List Ev)} {next:Int} {vq:Value} {l:List Od} {t:Tot} {vo:Value} {ts:List Ev} (id qty:Int) (k:Nat) (c:Od) (w:World) (h:EnS mb B Bo w gv gs gl next vq l t vo ts) (hl:l.length ≤ 1000) (hn:ts.length ≤ 1000) (hk:plc l id = k) (hc:l[k]? = some c) :
  Calls Tryz.prog 69 #[I mb 0,.agg #[H id,H qty]] w fun r w'=>r = yl (.tuple #[])∧(∃ qr,EnS mb B Bo w' gv gs gl next vq (l.set k { c with left:=qty }) t qr (ts ++ [⟨7,zCm,id,0,qty,0,0⟩]))∧KeptBut mb B w w':=by
 have xA:l ≠ []:=by rintro rfl; simp at hc
 have kg:=(yE.1 hc).1
 obtain ⟨g,A,rfl,vW,hBg,hgw⟩:=dn h.orow xA
 have qB:=h.lt
 have px:B ≤ w.heap.size:=yL h.bo h.le
 have xU:=eB w (N #[H id,H qty] 118)
 have HE:=Y (zT h xU)
 have xW:=Y xU
 have xz:w.heap.size < (w.alloc (N #[H id,H qty] 118)).heap.size:=by rw [zf]; omega
 have HKR:Hid (World.rangeAt (w.alloc (N #[H id,H qty] 118)) w.heap.size 0 [H id,H qty]):=zg w [H id,H qty] _
 have HPL:=Y hk
 have ju:=Y hc
 clear h xU hk hc xA
 go_enter Tryz.func69,Tryz.ntmps69
 refine eF fun hj xq=>?_
 go_wp2_with fail
 refine U xq _ _ ?_
 clear xq
 generalize (w.alloc (N #[H id,H qty] 118)) = xm at HE xW xz HKR ⊢
 have hgX:g < xm.heap.size:=by omega
 have jW:mb < xm.heap.size:=by omega
 have vS:Hid (xm.cell? (J mb 1) = some (H next)):=(U HE).cells 1 _ rfl
 have vx:Hid (xm.cell? (J mb 2) = some (.slice (some (J g 0)) l.length A)):=(U HE).cells 2 _ rfl
 have HK0:Hid (xm.cell? (yp w 0) = some (H id)):=U HKR 0 _ rfl
 have HK1c:Hid (xm.cell? (yp w 1) = some (H qty)):=U HKR 1 _ rfl
 have qM:=Y (zR (U HE).orow (by omega))
 have uU:=row_hereE (U HE).orow hl (U ju)
 have qf:Hid (xm.cell? (J g (k * 6 + 3)) = some (H c.left)):=uU.1 3 _ rfl
 have HF3:Hid (xm.frozen? (J g (k * 6 + 3)) = false):=uU.2 3 (by omega)
 have hkl':(k:Int) < l.length:=by omega
 have hk0:(0:Int) ≤ k:=by omega
 clear uU
 refine eF fun hj xq=>?_
 refine zi (RWA (fun f=>{ tmps:=#[I mb 0,.agg #[H id,H qty],M,yn w 0,f 0,f 1,f 2,f 3,f 4,f 5,f 6,f 7,f 8,f 9,f 10,f 11,f 12,f 13,f 14,f 15,f 16,f 17,M,M,M,M,M,M,M],defers:=[] }) (CRd mb w.heap.size g l.length A k next id qty) 18 (fun V=>V.setCell (J g (k * 6 + 3)) (H qty)) xm) (by kernel_rfl) ?_ ?_ ?_
 ·exact ⟨fun _=>M,rfl,⟨fun j K=>by rw [yG] at K; split at K <;> simp at K,fun _=>⟨rfl,rfl,rfl,Nat.le_refl _,fun _ _=>rfl⟩,by simp⟩⟩
 ·rintro x xj V ⟨f,rfl,E⟩ hx xL
  have xn:=zW xL hx (acyc _ (by kernel_rfl))
  obtain ⟨V0,hb0,eV⟩:=E.m (xn 18 (by simp))
  refine U xq _ _ ?_
  clear xq
  dsimp only
  generalize f 0 = v0,f 1 = v1,f 2 = v2,f 3 = v3,f 4 = v4,f 5 = v5,f 6 = v6,f 7 = v7,f 8 = v8,f 9 = v9,f 10 = v10,f 11 = v11,f 12 = v12,f 13 = v13,f 14 = v14,f 15 = v15,f 16 = v16,f 17 = v17
  clear E xn xL hx
  have hE0:=zT (U HE) hb0
  have pJ:=oRow_left hE0.orow rfl (U ju) qty
  have hng:some mb ≠ (Value.slice (some (J g 0)) l.length A).ownBlock:=zl hE0.orow hE0.box (by decide)
  have hE1:EnS mb B Bo V gv gs gl next (.slice (some (J g 0)) l.length A) (l.set k { c with left:=qty }) t vo ts:=by
   rw [eV]
   refine ens_took hE0 ((yJ _ _ _ _ (fun e=>hng (by simp [Value.ownBlock]; exact (congrArg Addr.block e).symm))).trans (hE0.cells 2 _ rfl)) pJ.1 (bz pJ.2 hE0.lt hng)
  have pf:=Y hE1
  have HKV:Hid (KeptBut mb B w V):=by
   rw [eV]
   refine zk (zB (U xW) px) (zk (zB hb0 (by have:=(U HE).bo; have:=(U HE).le; omega)) ?_)
   exact ⟨rfl,rfl,rfl,by simp [World.setCell],fun j K _=>yQ _ _ _ _ (show j ≠ g by omega)⟩
  have z3:V.cell? (yp w 0) = some (H id):=by
   rw [eV]
   exact (yJ _ _ _ _ (fun e=>by have:=congrArg Addr.block e; simp at this; omega)).trans ((hb0.cell (p:=(yp w 0)) xz).trans (U HK0))
  have z4:V.cell? (yp w 1) = some (H qty):=by
   rw [eV]
   exact (yJ _ _ _ _ (fun e=>by have:=congrArg Addr.block e; simp at this; omega)).trans ((hb0.cell (p:=(yp w 1)) xz).trans (U HK1c))
  clear hE0 pJ hE1 hb0 eV vS vx qf HF3 qM
  go_wp2_with fail
  refine (cj ⟨7,zCm,id,0,qty,0,0⟩ V (U pf) hn).mono ?_
  rintro e w5 ⟨rfl,qg,kD,-⟩
  have vJ:=Y qg
  have kj:=Y (zk (U HKV) kD)
  clear qg kD
  go_wp2_with fail
  go_end0
  exact ⟨rfl,U vJ,U kj⟩
 ·rintro x xj V i op ⟨f,rfl,E⟩ X hx Z xu Q
  have xw:=Y E
  have n18:i < 18→x[18]? = some false:=fun xI=>by
   rcases bH hx (show 18 < 19 by omega) with hq | kc
   ·exact hq
   ·have kA:=ye X 18 rfl kc 17 rfl
    have vy:=ye X 18 rfl kc 15 rfl
    have h16:=ye X 17 rfl kA 16 rfl
    have jk:=ye X 15 rfl vy 14 rfl
    have h5:=ye X 16 rfl h16 5 rfl
    have jS:=ye X 16 rfl h16 13 rfl
    have h4:=ye X 5 rfl h5 4 rfl
    have vT:=ye X 13 rfl jS 10 rfl
    have qA:=ye X 13 rfl jS 12 rfl
    have h3:=ye X 4 rfl h4 3 rfl
    have h9:=ye X 10 rfl vT 9 rfl
    have uY:=ye X 12 rfl qA 11 rfl
    have D:=ye X 3 rfl h3 2 rfl
    have h8:=ye X 9 rfl h9 8 rfl
    have G:=ye X 2 rfl D 1 rfl
    have h7:=ye X 8 rfl h8 7 rfl
    have h0:=ye X 1 rfl G 0 rfl
    have h6:=ye X 7 rfl h7 6 rfl
    have uk:∀ j,j < 18→x[j]? = some true:=fun j K=>by
     rcases (by omega:j = 0 ∨ j = 1 ∨ j = 2 ∨ j = 3 ∨ j = 4 ∨ j = 5 ∨ j = 6 ∨ j = 7 ∨ j = 8 ∨ j = 9 ∨ j = 10 ∨ j = 11 ∨ j = 12 ∨ j = 13 ∨ j = 14 ∨ j = 15 ∨ j = 16 ∨ j = 17) with rfl | rfl | rfl | rfl | rfl | rfl | rfl | rfl | rfl | rfl | rfl | rfl | rfl | rfl | rfl | rfl | rfl | rfl <;> assumption
    rw [uk i xI] at xu; cases xu
  match i,Z with
  | 0,Z =>
   obtain rfl:=ya Z
   clear Q E X
   rw [if_pos (by rfl)];unfold Oper.wp;go_simp
   exact ⟨upd f 0 (I mb 0),by simp [upd],aU (U xw) 0 _ rfl (by decide)⟩
  | 1,Z =>
   obtain rfl:=ya Z
   have g0:f 0 = I mb 0:=E.c 0 (yd Q 0 rfl)
   clear Q E X
   rw [if_pos (by rfl)];unfold Oper.wp;go_simp
   exact ⟨upd f 1 (I mb 0),by simp [upd,g0],aU (U xw) 1 _ rfl (by decide)⟩
  | 2,Z =>
   obtain rfl:=ya Z
   have g1:f 1 = I mb 0:=E.c 1 (yd Q 1 rfl)
   clear Q E X
   rw [if_pos (by rfl)];unfold Oper.wp;go_simp
   exact ⟨upd f 2 (I mb 0),by simp [upd,g1],aU (U xw) 2 _ rfl (by decide)⟩
  | 3,Z =>
   obtain rfl:=ya Z
   have g2:f 2 = I mb 0:=E.c 2 (yd Q 2 rfl)
   clear Q E X
   rw [if_pos (by rfl)];unfold Oper.wp;go_simp
   exact ⟨upd f 3 (I mb 1),by simp [upd,g2],aU (U xw) 3 _ rfl (by decide)⟩
  | 4,Z =>
   obtain rfl:=ya Z
   have g3:f 3 = I mb 1:=E.c 3 (yd Q 3 rfl)
   clear Q E X
   rw [if_pos (by rfl)];unfold Oper.wp;go_simp
   exact ⟨upd f 4 (I mb 2),by simp [upd,g3],aU (U xw) 4 _ rfl (by decide)⟩
  | 5,Z =>
   obtain rfl:=ya Z
   have g4:f 4 = I mb 2:=E.c 4 (yd Q 4 rfl)
   have xV:=E.b (n18 (by omega))
   have xk:∀ (p:Addr) u,xm.cell? p = some u→V.cell? p = some u:=fun p u hu=>(xV.cell (yI xm _ hu)).trans hu
   have z2:=xk (J mb 2) _ (U vx)
   clear Q E X
   rw [if_pos (by rfl)];unfold Oper.wp;go_simp
   exact ⟨upd f 5 (.slice (some (J g 0)) l.length A),by simp [upd,g4],aU (U xw) 5 _ rfl (by decide)⟩
  | 6,Z =>
   obtain rfl:=ya Z
   clear Q E X
   rw [if_pos (by rfl)];unfold Oper.wp;go_simp
   exact ⟨upd f 6 (I mb 0),by simp [upd],aU (U xw) 6 _ rfl (by decide)⟩
  | 7,Z =>
   obtain rfl:=ya Z
   have g6:f 6 = I mb 0:=E.c 6 (yd Q 6 rfl)
   clear Q E X
   rw [if_pos (by rfl)];unfold Oper.wp;go_simp
   exact ⟨upd f 7 (I mb 0),by simp [upd,g6],aU (U xw) 7 _ rfl (by decide)⟩
  | 8,Z =>
   obtain rfl:=ya Z
   have g7:f 7 = I mb 0:=E.c 7 (yd Q 7 rfl)
   clear Q E X
   rw [if_pos (by rfl)];unfold Oper.wp;go_simp
   exact ⟨upd f 8 (I mb 0),by simp [upd,g7],aU (U xw) 8 _ rfl (by decide)⟩
  | 9,Z =>
   obtain rfl:=ya Z
   have g8:f 8 = I mb 0:=E.c 8 (yd Q 8 rfl)
   clear Q E X
   rw [if_pos (by rfl)];unfold Oper.wp;go_simp
   exact ⟨upd f 9 (I mb 1),by simp [upd,g8],aU (U xw) 9 _ rfl (by decide)⟩
  | 10,Z =>
   obtain rfl:=ya Z
   have g9:f 9 = I mb 1:=E.c 9 (yd Q 9 rfl)
   have xV:=E.b (n18 (by omega))
   have xk:∀ (p:Addr) u,xm.cell? p = some u→V.cell? p = some u:=fun p u hu=>(xV.cell (yI xm _ hu)).trans hu
   have z1:=xk (J mb 1) _ (U vS)
   have z2:=xk (J mb 2) _ (U vx)
   clear Q E X
   rw [if_pos (by rfl)];unfold Oper.wp;go_simp
   exact ⟨upd f 10 (.agg #[H next,.slice (some (J g 0)) l.length A]),by simp [upd,g9],aU (U xw) 10 _ rfl (by decide)⟩
  | 11,Z =>
   obtain rfl:=ya Z
   clear Q E X
   rw [if_pos (by rfl)];unfold Oper.wp;go_simp
   exact ⟨upd f 11 (yn w 0),by simp [upd],aU (U xw) 11 _ rfl (by decide)⟩
  | 12,Z =>
   obtain rfl:=ya Z
   have vI:f 11 = yn w 0:=E.c 11 (yd Q 11 rfl)
   have xV:=E.b (n18 (by omega))
   have xk:∀ (p:Addr) u,xm.cell? p = some u→V.cell? p = some u:=fun p u hu=>(xV.cell (yI xm _ hu)).trans hu
   have z3:=xk (yp w 0) _ (U HK0)
   clear Q E X
   rw [if_pos (by rfl)];unfold Oper.wp;go_simp
   exact ⟨upd f 12 (H id),by simp [upd,vI],aU (U xw) 12 _ rfl (by decide)⟩
  | 13,Z =>
   obtain rfl:=ya Z
   have qy:f 10 = .agg #[H next,.slice (some (J g 0)) l.length A]:=E.c 10 (yd Q 10 rfl)
   have ub:f 12 = H id:=E.c 12 (yd Q 12 rfl)
   have kc:=n18 (by omega)
   have af:=Y (zh (U qM) (E.b kc) hb)
   clear Q E X
   rw [if_pos (by rfl)];unfold Oper.wp;go_simp
   refine (dy next _ l id V (U af)).mono ?_
   rw [U HPL]
   rintro e w4 ⟨rfl,xy⟩
   exact ⟨upd f 13 (H k),by simp [upd,qy,ub],aU (rw_grow (U xw) kc xy) 13 _ rfl (by decide)⟩
  | 14,Z =>
   obtain rfl:=ya Z
   clear Q E X
   rw [if_pos (by rfl)];unfold Oper.wp;go_simp
   exact ⟨upd f 14 (yn w 1),by simp [upd],aU (U xw) 14 _ rfl (by decide)⟩
  | 15,Z =>
   obtain rfl:=ya Z
   have km:f 14 = yn w 1:=E.c 14 (yd Q 14 rfl)
   have xV:=E.b (n18 (by omega))
   have xk:∀ (p:Addr) u,xm.cell? p = some u→V.cell? p = some u:=fun p u hu=>(xV.cell (yI xm _ hu)).trans hu
   have z4:=xk (yp w 1) _ (U HK1c)
   clear Q E X
   rw [if_pos (by rfl)];unfold Oper.wp;go_simp
   exact ⟨upd f 15 (H qty),by simp [upd,km],aU (U xw) 15 _ rfl (by decide)⟩
  | 16,Z =>
   obtain rfl:=ya Z
   have g5:f 5 = .slice (some (J g 0)) l.length A:=E.c 5 (yd Q 5 rfl)
   have kO:f 13 = H k:=E.c 13 (yd Q 13 rfl)
   clear Q E X
   rw [if_pos (by rfl)];unfold Oper.wp;go_simp
   exact ⟨upd f 16 (I g (k * 6)),by simp [upd,g5,kO],aU (U xw) 16 _ rfl (by decide)⟩
  | 17,Z =>
   obtain rfl:=ya Z
   have g16:f 16 = I g (k * 6):=E.c 16 (yd Q 16 rfl)
   clear Q E X
   rw [if_pos (by rfl)];unfold Oper.wp;go_simp
   exact ⟨upd f 17 (I g (k * 6 + 3)),by simp [upd,g16],aU (U xw) 17 _ rfl (by decide)⟩
  | 18,Z =>
   obtain rfl:=ya Z
   have g17:f 17 = I g (k * 6 + 3):=E.c 17 (yd Q 17 rfl)
   have g15:f 15 = H qty:=E.c 15 (yd Q 15 rfl)
   have xV:=E.b xu
   have y3:=(xV.cell (p:=(J g (k * 6 + 3))) hgX).trans (U qf)
   have q3:V.frozen? (J g (k * 6 + 3)) = false:=(World.frozen?_of_block (a:=(J g (k * 6 + 3))) (xV.block g hgX)).trans (U HF3)
   clear Q E X
   rw [if_pos (by rfl)];unfold Oper.wp;go_simp
   exact ⟨f,by simp [g17,g15],rw_last (U xw) xu (fun j K hx=>by match j,K with | 18,_=>trivial)⟩
  | i + 19,Z=>simp at Z
def DVE (vs:List Value) (p:Prop) (W:World) (j:Nat) (v:Value):Prop:=∀ u,vs[j]? = some u→v = u
theorem dvE_mono {vs:List Value}:∀ p W W' j v,ym W W'→DVE vs p W j v→DVE vs p W' j v:=fun _ _ _ _ _ _ h=>h
theorem cancelE_any {mb B Bo:Nat} {gv:Value} {gs:List Value} {gl:List (List Ev)} {next:Int} {vq:Value} {l:List Od} {t:Tot} {vo:Value} {ts:List Ev} (id:Int) (k:Nat) (c:Od) (w:World) (h:EnS mb B Bo w gv gs gl next vq l t vo ts) (hl:l.length ≤ 1000) (hn:ts.length ≤ 1000) (hk:plc l id = k) (hc:l[k]? = some c) (pz:0 ≤ c.left) (kQ:c.left ≤ 1000000) :
  Calls Tryz.prog 68 #[I mb 0,.agg #[H id]] w fun r w'=>r = yl (.tuple #[])∧(∃ vw qr,EnS mb B Bo w' gv gs gl next vw (aB l k c c.left) t qr (ts ++ [⟨6,zCm,id,0,c.left,0,0⟩]))∧KeptBut mb B w w':=by
 have xA:l ≠ []:=by rintro rfl; simp at hc
 have kg:=(yE.1 hc).1
 obtain ⟨g,A,rfl,vW,hBg,hgw⟩:=dn h.orow xA
 have qB:=h.lt
 have px:B ≤ w.heap.size:=yL h.bo h.le
 have xU:=eB w (N #[H id] 115)
 have HE:=Y (zT h xU)
 have xW:=Y xU
 have xz:w.heap.size < (w.alloc (N #[H id] 115)).heap.size:=by rw [zf]; omega
 have HKR:Hid (World.rangeAt (w.alloc (N #[H id] 115)) w.heap.size 0 [H id]):=zg w [H id] _
 have HKB:Hid (∃ xp,(w.alloc (N #[H id] 115)).heap[w.heap.size]? = some (.cells xp 115 (0,0))):=⟨_,heap_alloc_new w _⟩
 have HPL:=Y hk
 have ju:=Y hc
 have HC01:Hid (0 ≤ c.left∧c.left ≤ 1000000):=⟨pz,kQ⟩
 clear h xU hk hc xA pz kQ
 go_enter Tryz.func68,Tryz.ntmps68
 refine eF fun hj xq=>?_
 go_wp2_with fail
 refine U xq _ _ ?_
 clear xq
 generalize (w.alloc (N #[H id] 115)) = xm at HE xW xz HKR HKB ⊢
 have hgX:g < xm.heap.size:=by omega
 have jW:mb < xm.heap.size:=by omega
 have vS:Hid (xm.cell? (J mb 1) = some (H next)):=(U HE).cells 1 _ rfl
 have vx:Hid (xm.cell? (J mb 2) = some (.slice (some (J g 0)) l.length A)):=(U HE).cells 2 _ rfl
 have HK0:Hid (xm.cell? (yp w 0) = some (H id)):=U HKR 0 _ rfl
 have qM:=Y (zR (U HE).orow (by omega))
 have qf:Hid (xm.cell? (J g (k * 6 + 3)) = some (H c.left)):=(row_hereE (U HE).orow hl (U ju)).1 3 _ rfl
 have hkl':(k:Int) < l.length:=by omega
 have hk0:(0:Int) ≤ k:=by omega
 refine eF fun hj xq=>?_
 refine zi (RG xm (fun f=>{ tmps:=#[I mb 0,.agg #[H id],M,yn w 0,f 17,f 0,f 1,f 2,f 3,f 4,f 5,f 6,f 7,f 8,f 9,f 10,f 11,f 12,f 13,f 14,f 15,f 16,M,M,M,M,M,M,M,M,M,M,M,M,M,M],defers:=[] }) 99 (DVE [I mb 0,I mb 0,I mb 0,I mb 1,I mb 2,.slice (some (J g 0)) l.length A,I mb 0,I mb 0,I mb 0,I mb 1,.agg #[H next,.slice (some (J g 0)) l.length A],yn w 0,H id,H k,I g (k * 6),I g (k * 6 + 3),H c.left,H c.left])) (by kernel_rfl) ?_ ?_ ?_
 ·exact ⟨fun _=>M,rfl,⟨rfl,rfl,rfl,Nat.le_refl _,fun _ _=>rfl⟩,fun j K=>by rw [yG] at K; split at K <;> simp at K⟩
 ·rintro x xj V ⟨f,rfl,xh,hD⟩ hx xL
  have xn:=zW xL hx (acyc _ (by kernel_rfl))
  have e17:f 17 = H c.left:=hD 17 (xn 17 (by simp)) _ rfl
  refine U xq _ _ ?_
  clear xq
  simp only [e17]
  generalize f 0 = v0,f 1 = v1,f 2 = v2,f 3 = v3,f 4 = v4,f 5 = v5,f 6 = v6,f 7 = v7,f 8 = v8,f 9 = v9,f 10 = v10,f 11 = v11,f 12 = v12,f 13 = v13,f 14 = v14,f 15 = v15,f 16 = v16
  have pf:=Y (zT (U HE) xh)
  have HKV:Hid (KeptBut mb B w V):=zk (zB (U xW) px) (zB xh (by omega))
  have z3:V.cell? (yp w 0) = some (H id):=(xh.cell (p:=(yp w 0)) xz).trans (U HK0)
  have hsV:w.heap.size < V.heap.size:=yH xz xh.size
  have HBoX:Hid (∃ xp,V.heap[w.heap.size]? = some (.cells xp 115 (0,0))):=by
   obtain ⟨xp,hc⟩:=U HKB
   exact ⟨xp,(xh.block w.heap.size xz).trans hc⟩
  clear hD xn e17 xL hx xh vS vx qf qM
  refine eF fun hj xq=>?_
  go_wp2_with fail
  refine (cj ⟨6,zCm,id,0,c.left,0,0⟩ V (U pf) hn).mono ?_
  rintro e w5 ⟨rfl,⟨qr,qg⟩,kD,ht5⟩
  have vJ:=Y qg
  have kj:=Y (zk (U HKV) kD)
  have z5:w5.cell? (yp w 0) = some (H id):=(yO (a:=(yp w 0)) (ht5.block w.heap.size hsV (by omega) (zl (U pf).erow (U HBoX) (by decide)))).trans z3
  clear qg kD z3 ht5
  go_wp2_with fail
  refine U xq _ _ ?_
  clear xq
  refine eg 7 (by kernel_rfl) (by kernel_rfl) ?_
  simp only [yR,List.take_zero,yS,List.drop_zero]
  have z5d:w5.drew.cell? (yp w 0) = some (H id):=z5
  repeat still_step
  refine wpStill_nil ?_
  go_wp2_with fail
  refine (takeFrom_any mb 1 B next id c.left _ l k c w5.drew ((U vJ).cells 1 _ rfl) ((U vJ).cells 2 _ rfl) (by have:=((U vJ).there 2 (by omega)).2; rwa [Nat.zero_add] at this) (U vJ).orow (zl (U vJ).orow (U vJ).box (by decide)) (U vJ).lt (yL (U vJ).bo (U vJ).le) hl (U HPL) (U ju) (U HC01).1 (Int.le_refl _) (U HC01).2).mono ?_
  rintro e w9 ⟨vw,rfl,hc9,ho9,ht9⟩
  have HE9:=Y (ens_took (zT (U vJ) (w':=w5.drew) ⟨rfl,rfl,rfl,Nat.le_refl _,fun _ _=>rfl⟩) hc9 ho9 ht9)
  have HK9:Hid (KeptBut mb B w w9):=zk (kept_drew (U kj)) (cD ht9 (yL (U vJ).bo (U vJ).le) (fun g' hg'=>((U vJ).orow.lt g' hg').1))
  clear hc9 ho9 ht9
  go_wp2_with fail
  go_end0
  exact ⟨rfl,⟨vw,qr,U HE9⟩,U HK9⟩
 ·rintro x xj V i op ⟨f,rfl,xh,hD⟩ X hx Z xu Q
  clear X
  have xr:=Y xh
  have HD:=Y hD
  have xk:∀ (p:Addr) u,xm.cell? p = some u→V.cell? p = some u:=fun p u hu=>(xh.cell (yI xm _ hu)).trans hu
  have af:=Y (zh (U qM) xh hb)
  match i,Z with
  | 0,Z | 6,Z =>
   obtain rfl:=ya Z
   clear Q hD xh xk
   rw [if_pos (by rfl)];unfold Oper.wp;go_simp
   exact ⟨upd f _ (I mb 0),by simp [upd],zd (U xr) (U HD) (by decide) (yf rfl)⟩
  | 1,Z =>
   obtain rfl:=ya Z
   have g0:=hD 0 (yd Q 0 rfl) _ rfl
   clear Q hD xh xk
   rw [if_pos (by rfl)];unfold Oper.wp;go_simp
   exact ⟨upd f 1 (I mb 0),by simp [upd,g0],zd (U xr) (U HD) (by decide) (yf rfl)⟩
  | 2,Z =>
   obtain rfl:=ya Z
   have g1:=hD 1 (yd Q 1 rfl) _ rfl
   clear Q hD xh xk
   rw [if_pos (by rfl)];unfold Oper.wp;go_simp
   exact ⟨upd f 2 (I mb 0),by simp [upd,g1],zd (U xr) (U HD) (by decide) (yf rfl)⟩
  | 3,Z =>
   obtain rfl:=ya Z
   have g2:=hD 2 (yd Q 2 rfl) _ rfl
   clear Q hD xh xk
   rw [if_pos (by rfl)];unfold Oper.wp;go_simp
   exact ⟨upd f 3 (I mb 1),by simp [upd,g2],zd (U xr) (U HD) (by decide) (yf rfl)⟩
  | 4,Z =>
   obtain rfl:=ya Z
   have g3:=hD 3 (yd Q 3 rfl) _ rfl
   clear Q hD xh xk
   rw [if_pos (by rfl)];unfold Oper.wp;go_simp
   exact ⟨upd f 4 (I mb 2),by simp [upd,g3],zd (U xr) (U HD) (by decide) (yf rfl)⟩
  | 5,Z =>
   obtain rfl:=ya Z
   have g4:=hD 4 (yd Q 4 rfl) _ rfl
   have z2:=xk (J mb 2) _ (U vx)
   clear Q hD xh xk
   rw [if_pos (by rfl)];unfold Oper.wp;go_simp
   exact ⟨upd f 5 (.slice (some (J g 0)) l.length A),by simp [upd,g4],zd (U xr) (U HD) (by decide) (yf rfl)⟩
  | 7,Z =>
   obtain rfl:=ya Z
   have g6:=hD 6 (yd Q 6 rfl) _ rfl
   clear Q hD xh xk
   rw [if_pos (by rfl)];unfold Oper.wp;go_simp
   exact ⟨upd f 7 (I mb 0),by simp [upd,g6],zd (U xr) (U HD) (by decide) (yf rfl)⟩
  | 8,Z =>
   obtain rfl:=ya Z
   have g7:=hD 7 (yd Q 7 rfl) _ rfl
   clear Q hD xh xk
   rw [if_pos (by rfl)];unfold Oper.wp;go_simp
   exact ⟨upd f 8 (I mb 0),by simp [upd,g7],zd (U xr) (U HD) (by decide) (yf rfl)⟩
  | 9,Z =>
   obtain rfl:=ya Z
   have g8:=hD 8 (yd Q 8 rfl) _ rfl
   clear Q hD xh xk
   rw [if_pos (by rfl)];unfold Oper.wp;go_simp
   exact ⟨upd f 9 (I mb 1),by simp [upd,g8],zd (U xr) (U HD) (by decide) (yf rfl)⟩
  | 10,Z =>
   obtain rfl:=ya Z
   have g9:=hD 9 (yd Q 9 rfl) _ rfl
   have z1:=xk (J mb 1) _ (U vS)
   have z2:=xk (J mb 2) _ (U vx)
   clear Q hD xh xk
   rw [if_pos (by rfl)];unfold Oper.wp;go_simp
   exact ⟨upd f 10 (.agg #[H next,.slice (some (J g 0)) l.length A]),by simp [upd,g9],zd (U xr) (U HD) (by decide) (yf rfl)⟩
  | 11,Z =>
   obtain rfl:=ya Z
   clear Q hD xh xk
   rw [if_pos (by rfl)];unfold Oper.wp;go_simp
   exact ⟨upd f 11 (yn w 0),by simp [upd],zd (U xr) (U HD) (by decide) (yf rfl)⟩
  | 12,Z =>
   obtain rfl:=ya Z
   have vI:=hD 11 (yd Q 11 rfl) _ rfl
   have z3:=xk (yp w 0) _ (U HK0)
   clear Q hD xh xk
   rw [if_pos (by rfl)];unfold Oper.wp;go_simp
   exact ⟨upd f 12 (H id),by simp [upd,vI],zd (U xr) (U HD) (by decide) (yf rfl)⟩
  | 13,Z =>
   obtain rfl:=ya Z
   have qy:=hD 10 (yd Q 10 rfl) _ rfl
   have ub:=hD 12 (yd Q 12 rfl) _ rfl
   clear Q hD xh xk
   rw [if_pos (by rfl)];unfold Oper.wp;go_simp
   refine (dy next _ l id V (U af)).mono ?_
   rw [U HPL]
   rintro e w4 ⟨rfl,xy⟩
   exact ⟨upd f 13 (H k),by simp [upd,qy,ub],cx dvE_mono (U xr) (U HD) xy (by decide) (yf rfl)⟩
  | 14,Z =>
   obtain rfl:=ya Z
   have g5:=hD 5 (yd Q 5 rfl) _ rfl
   have kO:=hD 13 (yd Q 13 rfl) _ rfl
   clear Q hD xh xk
   rw [if_pos (by rfl)];unfold Oper.wp;go_simp
   exact ⟨upd f 14 (I g (k * 6)),by simp [upd,g5,kO],zd (U xr) (U HD) (by decide) (yf rfl)⟩
  | 15,Z =>
   obtain rfl:=ya Z
   have km:=hD 14 (yd Q 14 rfl) _ rfl
   clear Q hD xh xk
   rw [if_pos (by rfl)];unfold Oper.wp;go_simp
   exact ⟨upd f 15 (I g (k * 6 + 3)),by simp [upd,km],zd (U xr) (U HD) (by decide) (yf rfl)⟩
  | 16,Z =>
   obtain rfl:=ya Z
   have g15:=hD 15 (yd Q 15 rfl) _ rfl
   have z3:=xk (J g (k * 6 + 3)) _ (U qf)
   clear Q hD xh xk
   rw [if_pos (by rfl)];unfold Oper.wp;go_simp
   exact ⟨upd f 16 (H c.left),by simp [upd,g15],zd (U xr) (U HD) (by decide) (yf rfl)⟩
  | 17,Z =>
   obtain rfl:=ya Z
   have g16:=hD 16 (yd Q 16 rfl) _ rfl
   clear Q hD xh xk
   rw [if_pos (by rfl)];unfold Oper.wp;go_simp
   exact ⟨upd f 17 (H c.left),by simp [upd,g16],zd (U xr) (U HD) (by decide) (yf rfl)⟩
  | i + 18,Z=>simp at Z
end Go.Proofs.YtbakanofkghmiaaGreat
