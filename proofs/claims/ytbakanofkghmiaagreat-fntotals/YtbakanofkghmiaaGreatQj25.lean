/-
  An order reduced, and one cancelled, by the engine: proved by walking the methods.
-/
import Derived.Test.YtbakanofkghmiaaGreatQj24
set_option linter.unusedVariables false
set_option maxHeartbeats 6400000
set_option maxRecDepth 100000
namespace Go.Proofs.YtbakanofkghmiaaGreat
open Go.RowKit
theorem ens_took {mb B Bo:Nat} {W w':World} {gv:Value} {gs:List Value} {gl:List (List Ev)} {next:Int} {vq vu:Value} {l l':List Od} {t:Tot} {vo:Value} {ts:List Ev} (h:EnS mb B Bo W gv gs gl next vq l t vo ts) (hc:w'.cell? (J mb 2) = some vu) (Z:ORow w' B vu l') (ht:TookAt mb 1 vq.ownBlock W w'):EnS mb B Bo w' gv gs gl next vu l' t vo ts:=by
 have xr:∀ j,j ≠ 2→w'.cell? (J mb j) = W.cell? (J mb j):=fun j R=>ht.cell j (by omega)
 refine ⟨?_,fun j R=>⟨?_,?_⟩,bi h.grow ht (zl h.grow h.box (by decide)) (zD h.grow h.orow (by decide)),h.glen,?_,h.glt,Z,bi h.erow ht (zl h.erow h.box (by decide)) (zD h.erow h.orow (by decide)),?_,h.bo,yO h.le ht.size⟩
 ·intro j u R
  by_cases N:j = 2
  ·subst N; cases R; rw [Nat.zero_add]; exact hc
  ·rw [Nat.zero_add,xr j N]
   have:W.cell? (J mb (0 + j)) = some u:=h.cells j u (by
    match j,R with
    | 0,R | 1,R | 3,R | 4,R | 5,R | 6,R | 7,R | 8,R | 9,R | 10,R | 11,R=>exact R
    | 2,R=>exact absurd rfl N
    | j + 12,R=>simp at R)
   rwa [Nat.zero_add] at this
 ·by_cases N:j = 2
  ·subst N; rw [Nat.zero_add,hc]; rfl
  ·rw [Nat.zero_add,xr j N]; have:=(h.there j R).1; rwa [Nat.zero_add] at this
 ·rw [Nat.zero_add,ht.frozen]; have:=(h.there j R).2; rwa [Nat.zero_add] at this
 ·intro i g es hg uS
  have hr:=h.geach i g es hg uS
  exact bi hr ht (zl hr h.box (by decide)) (zD hr h.orow (by decide))
 ·obtain ⟨xu,X⟩:=h.box
  exact ht.kind _ _ _ X
theorem zP {mb B Bo:Nat} {W w':World} {gv:Value} {gs:List Value} {gl:List (List Ev)} {next:Int} {vq:Value} {l:List Od} {t:Tot} {vo:Value} {ts:List Ev} (h:EnS mb B Bo W gv gs gl next vq l t vo ts) (X:yn W w'):EnS mb B Bo w' gv gs gl next vq l t vo ts :=
 ens_took h ((X.cell (p:=(J mb 2)) h.lt).trans (h.cells 2 _ rfl)) (zm h.orow X) (bI (aW X tg) h.lt (zl h.orow h.box (by decide)))
theorem row_hereE {W:World} {B g n cp i:Nat} {l:List Od} {o:Od} (h:ORow W B (.slice (some (J g 0)) n cp) l) (hl:l.length ≤ 1000) (hi:l[i]? = some o):W.rangeAt g (i * 6) o.vs∧∀ j,j < 6→W.frozen? (J g (i * 6 + j)) = false:=by
 obtain ⟨a',c',e,_,hc⟩:=zN h (by omega)
 obtain ⟨b',uM,e2,_,hc⟩:=hc (by rintro rfl; simp at hi)
 rw [e2] at e
 simp only [Value.slice.injEq,Option.some.injEq,Addr.mk.injEq,and_true] at e
 obtain ⟨⟨rfl,rfl⟩,-⟩:=e
 refine ⟨by simpa using hc i o hi,fun j R=>?_⟩
 rcases h.2 with ⟨Q,_⟩ | ⟨g',pB,xu,Q,_,h3,h4,_,h5,_⟩
 ·cases Q
 ·simp only [Value.slice.injEq,Option.some.injEq,Addr.mk.injEq,and_true] at Q
  obtain ⟨rfl,-⟩:=Q
  have hil:=(yH.1 hi).1
  have:=(cJ h3 tg (i * 6 + j) (by rw [h5]; omega)).2
  rwa [Nat.zero_add] at this
def CRd (mb S g n A k:Nat) (next id qty:Int):Nat→Value→Prop
 | 0,v | 1,v | 2,v | 6,v | 7,v | 8,v=>v = I mb 0
 | 3,v | 9,v=>v = I mb 1
 | 4,v=>v = I mb 2
 | 5,v=>v = .slice (some (J g 0)) n A
 | 10,v=>v = .agg #[H next,.slice (some (J g 0)) n A]
 | 11,v=>v = I S 0
 | 12,v=>v = H id
 | 13,v=>v = H k
 | 14,v=>v = I S 1
 | 15,v=>v = H qty
 | 16,v=>v = I g (k * 6)
 | 17,v=>v = I g (k * 6 + 3)
 | _,_=>True
theorem reduceE_any {mb B Bo:Nat} {gv:Value} {gs:List Value} {gl:List (List Ev)} {next:Int} {vq:Value} {l:List Od} {t:Tot} {vo:Value} {ts:List Ev} (id qty:Int) (k:Nat) (c:Od) (w:World) (h:EnS mb B Bo w gv gs gl next vq l t vo ts) (hl:l.length ≤ 1000) (hn:ts.length ≤ 1000) (hk:plc l id = k) (hc:l[k]? = some c) :
  Calls Tryz.prog 69 #[I mb 0,.agg #[H id,H qty]] w fun r w'=>r = ym (.tuple #[])∧(∃ qu,EnS mb B Bo w' gv gs gl next vq (l.set k { c with left:=qty }) t qu (ts ++ [⟨7,zCm,id,0,qty,0,0⟩]))∧KeptBut mb B w w':=by
 have xB:l ≠ []:=by rintro rfl; simp at hc
 have kN:=(yH.1 hc).1
 obtain ⟨g,A,rfl,vW,hBg,hgw⟩:=dr h.orow xB
 have qE:=h.lt
 have pF:B ≤ w.heap.size:=yO h.bo h.le
 have xV:=eE w (E #[H id,H qty] 118)
 have HE:=Y (zP h xV)
 have xU:=Y xV
 have xC:w.heap.size < (w.alloc (E #[H id,H qty] 118)).heap.size:=by rw [zh]; omega
 have HKR:Hid (World.rangeAt (w.alloc (E #[H id,H qty] 118)) w.heap.size 0 [H id,H qty]):=zi w [H id,H qty] _
 have HPL:=Y hk
 have jP:=Y hc
 clear h xV hk hc xB
 go_enter Tryz.func69,Tryz.ntmps69
 refine eI fun hR xv=>?_
 go_wp2_with fail
 refine U xv _ _ ?_
 clear xv
 generalize (w.alloc (E #[H id,H qty] 118)) = hb at HE xU xC HKR ⊢
 have hgX:g < hb.heap.size:=by omega
 have jY:mb < hb.heap.size:=by omega
 have qd:Hid (hb.cell? (J mb 1) = some (H next)):=(U HE).cells 1 _ rfl
 have vC:Hid (hb.cell? (J mb 2) = some (.slice (some (J g 0)) l.length A)):=(U HE).cells 2 _ rfl
 have HK0:Hid (hb.cell? (yq w 0) = some (H id)):=U HKR 0 _ rfl
 have HK1c:Hid (hb.cell? (yq w 1) = some (H qty)):=U HKR 1 _ rfl
 have ji:=Y (zN (U HE).orow (by omega))
 have uX:=row_hereE (U HE).orow hl (U jP)
 have qh:Hid (hb.cell? (J g (k * 6 + 3)) = some (H c.left)):=uX.1 3 _ rfl
 have HF3:Hid (hb.frozen? (J g (k * 6 + 3)) = false):=uX.2 3 (by omega)
 have hkl':(k:Int) < l.length:=by omega
 have hk0:(0:Int) ≤ k:=by omega
 clear uX
 refine eI fun hR xv=>?_
 refine zj (RWA (fun f=>{ tmps:=#[I mb 0,.agg #[H id,H qty],M,yp w 0,f 0,f 1,f 2,f 3,f 4,f 5,f 6,f 7,f 8,f 9,f 10,f 11,f 12,f 13,f 14,f 15,f 16,f 17,M,M,M,M,M,M,M],defers:=[] }) (CRd mb w.heap.size g l.length A k next id qty) 18 (fun V=>V.setCell (J g (k * 6 + 3)) (H qty)) hb) (by kernel_rfl) ?_ ?_ ?_
 ·exact ⟨fun _=>M,rfl,⟨fun j R=>by rw [yJ] at R; split at R <;> simp at R,fun _=>⟨rfl,rfl,rfl,Nat.le_refl _,fun _ _=>rfl⟩,by simp⟩⟩
 ·rintro x xn V ⟨f,rfl,K⟩ hx xN
  have xq:=zS xN hx (acyc _ (by kernel_rfl))
  obtain ⟨V0,hb0,eV⟩:=K.m (xq 18 (by simp))
  refine U xv _ _ ?_
  clear xv
  dsimp only
  generalize f 0 = v0,f 1 = v1,f 2 = v2,f 3 = v3,f 4 = v4,f 5 = v5,f 6 = v6,f 7 = v7,f 8 = v8,f 9 = v9,f 10 = v10,f 11 = v11,f 12 = v12,f 13 = v13,f 14 = v14,f 15 = v15,f 16 = v16,f 17 = v17
  clear K xq xN hx
  have hE0:=zP (U HE) hb0
  have pN:=oRow_left hE0.orow rfl (U jP) qty
  have hng:some mb ≠ (Value.slice (some (J g 0)) l.length A).ownBlock:=zl hE0.orow hE0.box (by decide)
  have hE1:EnS mb B Bo V gv gs gl next (.slice (some (J g 0)) l.length A) (l.set k { c with left:=qty }) t vo ts:=by
   rw [eV]
   refine ens_took hE0 ((yM _ _ _ _ (fun e=>hng (by simp [Value.ownBlock]; exact (congrArg Addr.block e).symm))).trans (hE0.cells 2 _ rfl)) pN.1 (bI pN.2 hE0.lt hng)
  have ps:=Y hE1
  have HKV:Hid (KeptBut mb B w V):=by
   rw [eV]
   refine zk (zC (U xU) pF) (zk (zC hb0 (by have:=(U HE).bo; have:=(U HE).le; omega)) ?_)
   exact ⟨rfl,rfl,rfl,by simp [World.setCell],fun j R _=>yT _ _ _ _ (show j ≠ g by omega)⟩
  have z3:V.cell? (yq w 0) = some (H id):=by
   rw [eV]
   exact (yM _ _ _ _ (fun e=>by have:=congrArg Addr.block e; simp at this; omega)).trans ((hb0.cell (p:=(yq w 0)) xC).trans (U HK0))
  have z4:V.cell? (yq w 1) = some (H qty):=by
   rw [eV]
   exact (yM _ _ _ _ (fun e=>by have:=congrArg Addr.block e; simp at this; omega)).trans ((hb0.cell (p:=(yq w 1)) xC).trans (U HK1c))
  clear hE0 pN hE1 hb0 eV qd vC qh HF3 ji
  go_wp2_with fail
  refine (cB ⟨7,zCm,id,0,qty,0,0⟩ V (U ps) hn).mono ?_
  rintro e w5 ⟨rfl,qO,hk5,-⟩
  have qc:=Y qO
  have kq:=Y (zk (U HKV) hk5)
  clear qO hk5
  go_wp2_with fail
  go_end0
  exact ⟨rfl,U qc,U kq⟩
 ·rintro x xn V i op ⟨f,rfl,K⟩ xp hx Z xz D
  have xA:=Y K
  have n18:i < 18→x[18]? = some false:=fun xL=>by
   rcases bQ hx (show 18 < 19 by omega) with hq | ki
   ·exact hq
   ·have kG:=yf xp 18 rfl ki 17 rfl
    have vx:=yf xp 18 rfl ki 15 rfl
    have h16:=yf xp 17 rfl kG 16 rfl
    have jm:=yf xp 15 rfl vx 14 rfl
    have h5:=yf xp 16 rfl h16 5 rfl
    have jt:=yf xp 16 rfl h16 13 rfl
    have h4:=yf xp 5 rfl h5 4 rfl
    have vQ:=yf xp 13 rfl jt 10 rfl
    have qD:=yf xp 13 rfl jt 12 rfl
    have h3:=yf xp 4 rfl h4 3 rfl
    have h9:=yf xp 10 rfl vQ 9 rfl
    have uZ:=yf xp 12 rfl qD 11 rfl
    have N:=yf xp 3 rfl h3 2 rfl
    have h8:=yf xp 9 rfl h9 8 rfl
    have Q:=yf xp 2 rfl N 1 rfl
    have h7:=yf xp 8 rfl h8 7 rfl
    have h0:=yf xp 1 rfl Q 0 rfl
    have h6:=yf xp 7 rfl h7 6 rfl
    have ul:∀ j,j < 18→x[j]? = some true:=fun j R=>by
     rcases (by omega:j = 0 ∨ j = 1 ∨ j = 2 ∨ j = 3 ∨ j = 4 ∨ j = 5 ∨ j = 6 ∨ j = 7 ∨ j = 8 ∨ j = 9 ∨ j = 10 ∨ j = 11 ∨ j = 12 ∨ j = 13 ∨ j = 14 ∨ j = 15 ∨ j = 16 ∨ j = 17) with rfl | rfl | rfl | rfl | rfl | rfl | rfl | rfl | rfl | rfl | rfl | rfl | rfl | rfl | rfl | rfl | rfl | rfl <;> assumption
    rw [ul i xL] at xz; cases xz
  match i,Z with
  | 0,Z =>
   obtain rfl:=ya Z
   clear D K xp
   rw [if_pos (by rfl)];unfold Oper.wp;go_simp
   exact ⟨upd f 0 (I mb 0),by simp [upd],bh (U xA) 0 _ rfl (by decide)⟩
  | 1,Z =>
   obtain rfl:=ya Z
   have g0:f 0 = I mb 0:=K.c 0 (ye D 0 rfl)
   clear D K xp
   rw [if_pos (by rfl)];unfold Oper.wp;go_simp
   exact ⟨upd f 1 (I mb 0),by simp [upd,g0],bh (U xA) 1 _ rfl (by decide)⟩
  | 2,Z =>
   obtain rfl:=ya Z
   have g1:f 1 = I mb 0:=K.c 1 (ye D 1 rfl)
   clear D K xp
   rw [if_pos (by rfl)];unfold Oper.wp;go_simp
   exact ⟨upd f 2 (I mb 0),by simp [upd,g1],bh (U xA) 2 _ rfl (by decide)⟩
  | 3,Z =>
   obtain rfl:=ya Z
   have g2:f 2 = I mb 0:=K.c 2 (ye D 2 rfl)
   clear D K xp
   rw [if_pos (by rfl)];unfold Oper.wp;go_simp
   exact ⟨upd f 3 (I mb 1),by simp [upd,g2],bh (U xA) 3 _ rfl (by decide)⟩
  | 4,Z =>
   obtain rfl:=ya Z
   have g3:f 3 = I mb 1:=K.c 3 (ye D 3 rfl)
   clear D K xp
   rw [if_pos (by rfl)];unfold Oper.wp;go_simp
   exact ⟨upd f 4 (I mb 2),by simp [upd,g3],bh (U xA) 4 _ rfl (by decide)⟩
  | 5,Z =>
   obtain rfl:=ya Z
   have g4:f 4 = I mb 2:=K.c 4 (ye D 4 rfl)
   have xT:=K.b (n18 (by omega))
   have xo:∀ (p:Addr) u,hb.cell? p = some u→V.cell? p = some u:=fun p u hu=>(xT.cell (yL hb _ hu)).trans hu
   have z2:=xo (J mb 2) _ (U vC)
   clear D K xp
   rw [if_pos (by rfl)];unfold Oper.wp;go_simp
   exact ⟨upd f 5 (.slice (some (J g 0)) l.length A),by simp [upd,g4],bh (U xA) 5 _ rfl (by decide)⟩
  | 6,Z =>
   obtain rfl:=ya Z
   clear D K xp
   rw [if_pos (by rfl)];unfold Oper.wp;go_simp
   exact ⟨upd f 6 (I mb 0),by simp [upd],bh (U xA) 6 _ rfl (by decide)⟩
  | 7,Z =>
   obtain rfl:=ya Z
   have g6:f 6 = I mb 0:=K.c 6 (ye D 6 rfl)
   clear D K xp
   rw [if_pos (by rfl)];unfold Oper.wp;go_simp
   exact ⟨upd f 7 (I mb 0),by simp [upd,g6],bh (U xA) 7 _ rfl (by decide)⟩
  | 8,Z =>
   obtain rfl:=ya Z
   have g7:f 7 = I mb 0:=K.c 7 (ye D 7 rfl)
   clear D K xp
   rw [if_pos (by rfl)];unfold Oper.wp;go_simp
   exact ⟨upd f 8 (I mb 0),by simp [upd,g7],bh (U xA) 8 _ rfl (by decide)⟩
  | 9,Z =>
   obtain rfl:=ya Z
   have g8:f 8 = I mb 0:=K.c 8 (ye D 8 rfl)
   clear D K xp
   rw [if_pos (by rfl)];unfold Oper.wp;go_simp
   exact ⟨upd f 9 (I mb 1),by simp [upd,g8],bh (U xA) 9 _ rfl (by decide)⟩
  | 10,Z =>
   obtain rfl:=ya Z
   have g9:f 9 = I mb 1:=K.c 9 (ye D 9 rfl)
   have xT:=K.b (n18 (by omega))
   have xo:∀ (p:Addr) u,hb.cell? p = some u→V.cell? p = some u:=fun p u hu=>(xT.cell (yL hb _ hu)).trans hu
   have z1:=xo (J mb 1) _ (U qd)
   have z2:=xo (J mb 2) _ (U vC)
   clear D K xp
   rw [if_pos (by rfl)];unfold Oper.wp;go_simp
   exact ⟨upd f 10 (.agg #[H next,.slice (some (J g 0)) l.length A]),by simp [upd,g9],bh (U xA) 10 _ rfl (by decide)⟩
  | 11,Z =>
   obtain rfl:=ya Z
   clear D K xp
   rw [if_pos (by rfl)];unfold Oper.wp;go_simp
   exact ⟨upd f 11 (yp w 0),by simp [upd],bh (U xA) 11 _ rfl (by decide)⟩
  | 12,Z =>
   obtain rfl:=ya Z
   have vw:f 11 = yp w 0:=K.c 11 (ye D 11 rfl)
   have xT:=K.b (n18 (by omega))
   have xo:∀ (p:Addr) u,hb.cell? p = some u→V.cell? p = some u:=fun p u hu=>(xT.cell (yL hb _ hu)).trans hu
   have z3:=xo (yq w 0) _ (U HK0)
   clear D K xp
   rw [if_pos (by rfl)];unfold Oper.wp;go_simp
   exact ⟨upd f 12 (H id),by simp [upd,vw],bh (U xA) 12 _ rfl (by decide)⟩
  | 13,Z =>
   obtain rfl:=ya Z
   have qx:f 10 = .agg #[H next,.slice (some (J g 0)) l.length A]:=K.c 10 (ye D 10 rfl)
   have xZ:f 12 = H id:=K.c 12 (ye D 12 rfl)
   have ki:=n18 (by omega)
   have HRV:=Y (zn (U ji) (K.b ki) tg)
   clear D K xp
   rw [if_pos (by rfl)];unfold Oper.wp;go_simp
   refine (dJ next _ l id V (U HRV)).mono ?_
   rw [U HPL]
   rintro e w4 ⟨rfl,xD⟩
   exact ⟨upd f 13 (H k),by simp [upd,qx,xZ],bh (rw_grow (U xA) ki xD) 13 _ rfl (by decide)⟩
  | 14,Z =>
   obtain rfl:=ya Z
   clear D K xp
   rw [if_pos (by rfl)];unfold Oper.wp;go_simp
   exact ⟨upd f 14 (yp w 1),by simp [upd],bh (U xA) 14 _ rfl (by decide)⟩
  | 15,Z =>
   obtain rfl:=ya Z
   have ku:f 14 = yp w 1:=K.c 14 (ye D 14 rfl)
   have xT:=K.b (n18 (by omega))
   have xo:∀ (p:Addr) u,hb.cell? p = some u→V.cell? p = some u:=fun p u hu=>(xT.cell (yL hb _ hu)).trans hu
   have z4:=xo (yq w 1) _ (U HK1c)
   clear D K xp
   rw [if_pos (by rfl)];unfold Oper.wp;go_simp
   exact ⟨upd f 15 (H qty),by simp [upd,ku],bh (U xA) 15 _ rfl (by decide)⟩
  | 16,Z =>
   obtain rfl:=ya Z
   have g5:f 5 = .slice (some (J g 0)) l.length A:=K.c 5 (ye D 5 rfl)
   have jV:f 13 = H k:=K.c 13 (ye D 13 rfl)
   clear D K xp
   rw [if_pos (by rfl)];unfold Oper.wp;go_simp
   exact ⟨upd f 16 (I g (k * 6)),by simp [upd,g5,jV],bh (U xA) 16 _ rfl (by decide)⟩
  | 17,Z =>
   obtain rfl:=ya Z
   have g16:f 16 = I g (k * 6):=K.c 16 (ye D 16 rfl)
   clear D K xp
   rw [if_pos (by rfl)];unfold Oper.wp;go_simp
   exact ⟨upd f 17 (I g (k * 6 + 3)),by simp [upd,g16],bh (U xA) 17 _ rfl (by decide)⟩
  | 18,Z =>
   obtain rfl:=ya Z
   have g17:f 17 = I g (k * 6 + 3):=K.c 17 (ye D 17 rfl)
   have g15:f 15 = H qty:=K.c 15 (ye D 15 rfl)
   have xT:=K.b xz
   have y3:=(xT.cell (p:=(J g (k * 6 + 3))) hgX).trans (U qh)
   have q3:V.frozen? (J g (k * 6 + 3)) = false:=(World.frozen?_of_block (a:=(J g (k * 6 + 3))) (xT.block g hgX)).trans (U HF3)
   clear D K xp
   rw [if_pos (by rfl)];unfold Oper.wp;go_simp
   exact ⟨f,by simp [g17,g15],rw_last (U xA) xz (fun j R hx=>by match j,R with | 18,_=>trivial)⟩
  | i + 19,Z=>simp at Z
def DVE (vs:List Value) (p:Prop) (W:World) (j:Nat) (v:Value):Prop:=∀ u,vs[j]? = some u→v = u
theorem dvE_mono {vs:List Value}:∀ p W W' j v,yn W W'→DVE vs p W j v→DVE vs p W' j v:=fun _ _ _ _ _ _ h=>h
theorem cancelE_any {mb B Bo:Nat} {gv:Value} {gs:List Value} {gl:List (List Ev)} {next:Int} {vq:Value} {l:List Od} {t:Tot} {vo:Value} {ts:List Ev} (id:Int) (k:Nat) (c:Od) (w:World) (h:EnS mb B Bo w gv gs gl next vq l t vo ts) (hl:l.length ≤ 1000) (hn:ts.length ≤ 1000) (hk:plc l id = k) (hc:l[k]? = some c) (pH:0 ≤ c.left) (kW:c.left ≤ 1000000) :
  Calls Tryz.prog 68 #[I mb 0,.agg #[H id]] w fun r w'=>r = ym (.tuple #[])∧(∃ vu qu,EnS mb B Bo w' gv gs gl next vu (aM l k c c.left) t qu (ts ++ [⟨6,zCm,id,0,c.left,0,0⟩]))∧KeptBut mb B w w':=by
 have xB:l ≠ []:=by rintro rfl; simp at hc
 have kN:=(yH.1 hc).1
 obtain ⟨g,A,rfl,vW,hBg,hgw⟩:=dr h.orow xB
 have qE:=h.lt
 have pF:B ≤ w.heap.size:=yO h.bo h.le
 have xV:=eE w (E #[H id] 115)
 have HE:=Y (zP h xV)
 have xU:=Y xV
 have xC:w.heap.size < (w.alloc (E #[H id] 115)).heap.size:=by rw [zh]; omega
 have HKR:Hid (World.rangeAt (w.alloc (E #[H id] 115)) w.heap.size 0 [H id]):=zi w [H id] _
 have HKB:Hid (∃ xu,(w.alloc (E #[H id] 115)).heap[w.heap.size]? = some (.cells xu 115 (0,0))):=⟨_,heap_alloc_new w _⟩
 have HPL:=Y hk
 have jP:=Y hc
 have HC01:Hid (0 ≤ c.left∧c.left ≤ 1000000):=⟨pH,kW⟩
 clear h xV hk hc xB pH kW
 go_enter Tryz.func68,Tryz.ntmps68
 refine eI fun hR xv=>?_
 go_wp2_with fail
 refine U xv _ _ ?_
 clear xv
 generalize (w.alloc (E #[H id] 115)) = hb at HE xU xC HKR HKB ⊢
 have hgX:g < hb.heap.size:=by omega
 have jY:mb < hb.heap.size:=by omega
 have qd:Hid (hb.cell? (J mb 1) = some (H next)):=(U HE).cells 1 _ rfl
 have vC:Hid (hb.cell? (J mb 2) = some (.slice (some (J g 0)) l.length A)):=(U HE).cells 2 _ rfl
 have HK0:Hid (hb.cell? (yq w 0) = some (H id)):=U HKR 0 _ rfl
 have ji:=Y (zN (U HE).orow (by omega))
 have qh:Hid (hb.cell? (J g (k * 6 + 3)) = some (H c.left)):=(row_hereE (U HE).orow hl (U jP)).1 3 _ rfl
 have hkl':(k:Int) < l.length:=by omega
 have hk0:(0:Int) ≤ k:=by omega
 refine eI fun hR xv=>?_
 refine zj (RG hb (fun f=>{ tmps:=#[I mb 0,.agg #[H id],M,yp w 0,f 17,f 0,f 1,f 2,f 3,f 4,f 5,f 6,f 7,f 8,f 9,f 10,f 11,f 12,f 13,f 14,f 15,f 16,M,M,M,M,M,M,M,M,M,M,M,M,M,M],defers:=[] }) 99 (DVE [I mb 0,I mb 0,I mb 0,I mb 1,I mb 2,.slice (some (J g 0)) l.length A,I mb 0,I mb 0,I mb 0,I mb 1,.agg #[H next,.slice (some (J g 0)) l.length A],yp w 0,H id,H k,I g (k * 6),I g (k * 6 + 3),H c.left,H c.left])) (by kernel_rfl) ?_ ?_ ?_
 ·exact ⟨fun _=>M,rfl,⟨rfl,rfl,rfl,Nat.le_refl _,fun _ _=>rfl⟩,fun j R=>by rw [yJ] at R; split at R <;> simp at R⟩
 ·rintro x xn V ⟨f,rfl,xm,hD⟩ hx xN
  have xq:=zS xN hx (acyc _ (by kernel_rfl))
  have e17:f 17 = H c.left:=hD 17 (xq 17 (by simp)) _ rfl
  refine U xv _ _ ?_
  clear xv
  simp only [e17]
  generalize f 0 = v0,f 1 = v1,f 2 = v2,f 3 = v3,f 4 = v4,f 5 = v5,f 6 = v6,f 7 = v7,f 8 = v8,f 9 = v9,f 10 = v10,f 11 = v11,f 12 = v12,f 13 = v13,f 14 = v14,f 15 = v15,f 16 = v16
  have ps:=Y (zP (U HE) xm)
  have HKV:Hid (KeptBut mb B w V):=zk (zC (U xU) pF) (zC xm (by omega))
  have z3:V.cell? (yq w 0) = some (H id):=(xm.cell (p:=(yq w 0)) xC).trans (U HK0)
  have hsV:w.heap.size < V.heap.size:=yK xC xm.size
  have HBoX:Hid (∃ xu,V.heap[w.heap.size]? = some (.cells xu 115 (0,0))):=by
   obtain ⟨xu,hc⟩:=U HKB
   exact ⟨xu,(xm.block w.heap.size xC).trans hc⟩
  clear hD xq e17 xN hx xm qd vC qh ji
  refine eI fun hR xv=>?_
  go_wp2_with fail
  refine (cB ⟨6,zCm,id,0,c.left,0,0⟩ V (U ps) hn).mono ?_
  rintro e w5 ⟨rfl,⟨qu,qO⟩,hk5,ht5⟩
  have qc:=Y qO
  have kq:=Y (zk (U HKV) hk5)
  have z5:w5.cell? (yq w 0) = some (H id):=(yR (a:=(yq w 0)) (ht5.block w.heap.size hsV (by omega) (zl (U ps).erow (U HBoX) (by decide)))).trans z3
  clear qO hk5 z3 ht5
  go_wp2_with fail
  refine U xv _ _ ?_
  clear xv
  refine ei 7 (by kernel_rfl) (by kernel_rfl) ?_
  simp only [yU,List.take_zero,yV,List.drop_zero]
  have z5d:w5.drew.cell? (yq w 0) = some (H id):=z5
  repeat still_step
  refine wpStill_nil ?_
  go_wp2_with fail
  refine (takeFrom_any mb 1 B next id c.left _ l k c w5.drew ((U qc).cells 1 _ rfl) ((U qc).cells 2 _ rfl) (by have:=((U qc).there 2 (by omega)).2; rwa [Nat.zero_add] at this) (U qc).orow (zl (U qc).orow (U qc).box (by decide)) (U qc).lt (yO (U qc).bo (U qc).le) hl (U HPL) (U jP) (U HC01).1 (Int.le_refl _) (U HC01).2).mono ?_
  rintro e w9 ⟨vu,rfl,hc9,ho9,ht9⟩
  have HE9:=Y (ens_took (zP (U qc) (w':=w5.drew) ⟨rfl,rfl,rfl,Nat.le_refl _,fun _ _=>rfl⟩) hc9 ho9 ht9)
  have HK9:Hid (KeptBut mb B w w9):=zk (kept_drew (U kq)) (cM ht9 (yO (U qc).bo (U qc).le) (fun g' hg'=>((U qc).orow.lt g' hg').1))
  clear hc9 ho9 ht9
  go_wp2_with fail
  go_end0
  exact ⟨rfl,⟨vu,qu,U HE9⟩,U HK9⟩
 ·rintro x xn V i op ⟨f,rfl,xm,hD⟩ xp hx Z xz D
  clear xp
  have xw:=Y xm
  have HD:=Y hD
  have xo:∀ (p:Addr) u,hb.cell? p = some u→V.cell? p = some u:=fun p u hu=>(xm.cell (yL hb _ hu)).trans hu
  have HRV:=Y (zn (U ji) xm tg)
  match i,Z with
  | 0,Z | 6,Z =>
   obtain rfl:=ya Z
   clear D hD xm xo
   rw [if_pos (by rfl)];unfold Oper.wp;go_simp
   exact ⟨upd f _ (I mb 0),by simp [upd],zf (U xw) (U HD) (by decide) (yh rfl)⟩
  | 1,Z =>
   obtain rfl:=ya Z
   have g0:=hD 0 (ye D 0 rfl) _ rfl
   clear D hD xm xo
   rw [if_pos (by rfl)];unfold Oper.wp;go_simp
   exact ⟨upd f 1 (I mb 0),by simp [upd,g0],zf (U xw) (U HD) (by decide) (yh rfl)⟩
  | 2,Z =>
   obtain rfl:=ya Z
   have g1:=hD 1 (ye D 1 rfl) _ rfl
   clear D hD xm xo
   rw [if_pos (by rfl)];unfold Oper.wp;go_simp
   exact ⟨upd f 2 (I mb 0),by simp [upd,g1],zf (U xw) (U HD) (by decide) (yh rfl)⟩
  | 3,Z =>
   obtain rfl:=ya Z
   have g2:=hD 2 (ye D 2 rfl) _ rfl
   clear D hD xm xo
   rw [if_pos (by rfl)];unfold Oper.wp;go_simp
   exact ⟨upd f 3 (I mb 1),by simp [upd,g2],zf (U xw) (U HD) (by decide) (yh rfl)⟩
  | 4,Z =>
   obtain rfl:=ya Z
   have g3:=hD 3 (ye D 3 rfl) _ rfl
   clear D hD xm xo
   rw [if_pos (by rfl)];unfold Oper.wp;go_simp
   exact ⟨upd f 4 (I mb 2),by simp [upd,g3],zf (U xw) (U HD) (by decide) (yh rfl)⟩
  | 5,Z =>
   obtain rfl:=ya Z
   have g4:=hD 4 (ye D 4 rfl) _ rfl
   have z2:=xo (J mb 2) _ (U vC)
   clear D hD xm xo
   rw [if_pos (by rfl)];unfold Oper.wp;go_simp
   exact ⟨upd f 5 (.slice (some (J g 0)) l.length A),by simp [upd,g4],zf (U xw) (U HD) (by decide) (yh rfl)⟩
  | 7,Z =>
   obtain rfl:=ya Z
   have g6:=hD 6 (ye D 6 rfl) _ rfl
   clear D hD xm xo
   rw [if_pos (by rfl)];unfold Oper.wp;go_simp
   exact ⟨upd f 7 (I mb 0),by simp [upd,g6],zf (U xw) (U HD) (by decide) (yh rfl)⟩
  | 8,Z =>
   obtain rfl:=ya Z
   have g7:=hD 7 (ye D 7 rfl) _ rfl
   clear D hD xm xo
   rw [if_pos (by rfl)];unfold Oper.wp;go_simp
   exact ⟨upd f 8 (I mb 0),by simp [upd,g7],zf (U xw) (U HD) (by decide) (yh rfl)⟩
  | 9,Z =>
   obtain rfl:=ya Z
   have g8:=hD 8 (ye D 8 rfl) _ rfl
   clear D hD xm xo
   rw [if_pos (by rfl)];unfold Oper.wp;go_simp
   exact ⟨upd f 9 (I mb 1),by simp [upd,g8],zf (U xw) (U HD) (by decide) (yh rfl)⟩
  | 10,Z =>
   obtain rfl:=ya Z
   have g9:=hD 9 (ye D 9 rfl) _ rfl
   have z1:=xo (J mb 1) _ (U qd)
   have z2:=xo (J mb 2) _ (U vC)
   clear D hD xm xo
   rw [if_pos (by rfl)];unfold Oper.wp;go_simp
   exact ⟨upd f 10 (.agg #[H next,.slice (some (J g 0)) l.length A]),by simp [upd,g9],zf (U xw) (U HD) (by decide) (yh rfl)⟩
  | 11,Z =>
   obtain rfl:=ya Z
   clear D hD xm xo
   rw [if_pos (by rfl)];unfold Oper.wp;go_simp
   exact ⟨upd f 11 (yp w 0),by simp [upd],zf (U xw) (U HD) (by decide) (yh rfl)⟩
  | 12,Z =>
   obtain rfl:=ya Z
   have vw:=hD 11 (ye D 11 rfl) _ rfl
   have z3:=xo (yq w 0) _ (U HK0)
   clear D hD xm xo
   rw [if_pos (by rfl)];unfold Oper.wp;go_simp
   exact ⟨upd f 12 (H id),by simp [upd,vw],zf (U xw) (U HD) (by decide) (yh rfl)⟩
  | 13,Z =>
   obtain rfl:=ya Z
   have qx:=hD 10 (ye D 10 rfl) _ rfl
   have xZ:=hD 12 (ye D 12 rfl) _ rfl
   clear D hD xm xo
   rw [if_pos (by rfl)];unfold Oper.wp;go_simp
   refine (dJ next _ l id V (U HRV)).mono ?_
   rw [U HPL]
   rintro e w4 ⟨rfl,xD⟩
   exact ⟨upd f 13 (H k),by simp [upd,qx,xZ],df dvE_mono (U xw) (U HD) xD (by decide) (yh rfl)⟩
  | 14,Z =>
   obtain rfl:=ya Z
   have g5:=hD 5 (ye D 5 rfl) _ rfl
   have jV:=hD 13 (ye D 13 rfl) _ rfl
   clear D hD xm xo
   rw [if_pos (by rfl)];unfold Oper.wp;go_simp
   exact ⟨upd f 14 (I g (k * 6)),by simp [upd,g5,jV],zf (U xw) (U HD) (by decide) (yh rfl)⟩
  | 15,Z =>
   obtain rfl:=ya Z
   have ku:=hD 14 (ye D 14 rfl) _ rfl
   clear D hD xm xo
   rw [if_pos (by rfl)];unfold Oper.wp;go_simp
   exact ⟨upd f 15 (I g (k * 6 + 3)),by simp [upd,ku],zf (U xw) (U HD) (by decide) (yh rfl)⟩
  | 16,Z =>
   obtain rfl:=ya Z
   have g15:=hD 15 (ye D 15 rfl) _ rfl
   have z3:=xo (J g (k * 6 + 3)) _ (U qh)
   clear D hD xm xo
   rw [if_pos (by rfl)];unfold Oper.wp;go_simp
   exact ⟨upd f 16 (H c.left),by simp [upd,g15],zf (U xw) (U HD) (by decide) (yh rfl)⟩
  | 17,Z =>
   obtain rfl:=ya Z
   have g16:=hD 16 (ye D 16 rfl) _ rfl
   clear D hD xm xo
   rw [if_pos (by rfl)];unfold Oper.wp;go_simp
   exact ⟨upd f 17 (H c.left),by simp [upd,g16],zf (U xw) (U HD) (by decide) (yh rfl)⟩
  | i + 18,Z=>simp at Z
end Go.Proofs.YtbakanofkghmiaaGreat
