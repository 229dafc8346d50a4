/-
  An order reduced, and one cancelled, by the engine: proved by walking the methods.
-/
import Derived.Test.YtbakanofkghmiaaGreatTj26
set_option linter.unusedVariables false
set_option maxHeartbeats 6400000
set_option maxRecDepth 100000
namespace Go.Proofs.YtbakanofkghmiaaGreat
open Go.RowKit
theorem ens_took {mb B Bo:Nat} {W w':World} {gv:Value} {gs:List Value} {gl:List (List Ev)} {next:Int} {vq vl:Value} {l l':List Od} {t:Tot} {vo:Value} {ts:List Ev} (h:EnS mb B Bo W gv gs gl next vq l t vo ts) (hc:w'.cell? (J mb 2) = some vl) (Z:ORow w' B vl l') (ht:TookAt mb 1 vq.ownBlock W w'):EnS mb B Bo w' gv gs gl next vl l' t vo ts:=by
 have xo:∀ j,j ≠ 2→w'.cell? (J mb j) = W.cell? (J mb j):=fun j R=>ht.cell j (by omega)
 refine ⟨?_,fun j R=>⟨?_,?_⟩,ak h.grow ht (zj h.grow h.box (by decide)) (zA h.grow h.orow (by decide)),h.glen,?_,h.glt,Z,ak h.erow ht (zj h.erow h.box (by decide)) (zA h.erow h.orow (by decide)),?_,h.bo,yL h.le ht.size⟩
 ·intro j u R
  by_cases N:j = 2
  ·subst N; cases R; rw [Nat.zero_add]; exact hc
  ·rw [Nat.zero_add,xo j N]
   have:W.cell? (J mb (0 + j)) = some u:=h.cells j u (by
    match j,R with
    | 0,R | 1,R | 3,R | 4,R | 5,R | 6,R | 7,R | 8,R | 9,R | 10,R | 11,R=>exact R
    | 2,R=>exact absurd rfl N
    | j + 12,R=>simp at R)
   rwa [Nat.zero_add] at this
 ·by_cases N:j = 2
  ·subst N; rw [Nat.zero_add,hc]; rfl
  ·rw [Nat.zero_add,xo j N]; have:=(h.there j R).1; rwa [Nat.zero_add] at this
 ·rw [Nat.zero_add,ht.frozen]; have:=(h.there j R).2; rwa [Nat.zero_add] at this
 ·intro i g es hg vk
  have hr:=h.geach i g es hg vk
  exact ak hr ht (zj hr h.box (by decide)) (zA hr h.orow (by decide))
 ·obtain ⟨xp,F⟩:=h.box
  exact ht.kind _ _ _ F
theorem zM {mb B Bo:Nat} {W w':World} {gv:Value} {gs:List Value} {gl:List (List Ev)} {next:Int} {vq:Value} {l:List Od} {t:Tot} {vo:Value} {ts:List Ev} (h:EnS mb B Bo W gv gs gl next vq l t vo ts) (F:ym W w'):EnS mb B Bo w' gv gs gl next vq l t vo ts :=
 ens_took h ((F.cell (p:=(J mb 2)) h.lt).trans (h.cells 2 _ rfl)) (zk h.orow F) (aG (pX F qt) h.lt (zj h.orow h.box (by decide)))
theorem row_hereE {W:World} {B g n cp i:Nat} {l:List Od} {o:Od} (h:ORow W B (.slice (some (J g 0)) n cp) l) (hl:l.length ≤ 1000) (hi:l[i]? = some o):W.rangeAt g (i * 6) o.vs∧∀ j,j < 6→W.frozen? (J g (i * 6 + j)) = false:=by
 obtain ⟨a',c',e,_,hc⟩:=zK h (by omega)
 obtain ⟨b',uG,e2,_,hc⟩:=hc (by rintro rfl; simp at hi)
 rw [e2] at e
 simp only [Value.slice.injEq,Option.some.injEq,Addr.mk.injEq,and_true] at e
 obtain ⟨⟨rfl,rfl⟩,-⟩:=e
 refine ⟨by simpa using hc i o hi,fun j R=>?_⟩
 rcases h.2 with ⟨Q,_⟩ | ⟨g',oX,xp,Q,_,h3,h4,_,h5,_⟩
 ·cases Q
 ·simp only [Value.slice.injEq,Option.some.injEq,Addr.mk.injEq,and_true] at Q
  obtain ⟨rfl,-⟩:=Q
  have hil:=(yE.1 hi).1
  have:=(bu h3 qt (i * 6 + j) (by rw [h5]; omega)).2
  rwa [Nat.zero_add] at this
def CRd (mb S g n E k:Nat) (next id qty:Int):Nat→Value→Prop
 | 0,v | 1,v | 2,v | 6,v | 7,v | 8,v=>v = I mb 0
 | 3,v | 9,v=>v = I mb 1
 | 4,v=>v = I mb 2
 | 5,v=>v = .slice (some (J g 0)) n E
 | 10,v=>v = .agg #[H next,.slice (some (J g 0)) n E]
 | 11,v=>v = I S 0
 | 12,v=>v = H id
 | 13,v=>v = H k
 | 14,v=>v = I S 1
 | 15,v=>v = H qty
 | 16,v=>v = I g (k * 6)
 | 17,v=>v = I g (k * 6 + 3)
 | _,_=>True
theorem reduceE_any {mb B Bo:Nat} {gv:Value} {gs:List Value} {gl:List (List Ev)} {next:Int} {vq:Value} {l:List Od} {t:Tot} {vo:Value} {ts:List Ev} (id qty:Int) (k:Nat) (c:Od) (w:World) (h:EnS mb B Bo w gv gs gl next vq l t vo ts) (hl:l.length ≤ 1000) (hn:ts.length ≤ 1000) (hk:plc l id = k) (hc:l[k]? = some c) :
  Calls Tryz.prog 69 #[I mb 0,.agg #[H id,H qty]] w fun r w'=>r = yl (.tuple #[])∧(∃ qi,EnS mb B Bo w' gv gs gl next vq (l.set k { c with left:=qty }) t qi (ts ++ [⟨7,zCm,id,0,qty,0,0⟩]))∧KeptBut mb B w w':=by
 have xA:l ≠ []:=by rintro rfl; simp at hc
 have kc:=(yE.1 hc).1
 obtain ⟨g,E,rfl,vO,hBg,hgw⟩:=ch h.orow xA
 have qr:=h.lt
 have pe:B ≤ w.heap.size:=yL h.bo h.le
 have xS:=dm w (D #[H id,H qty] 118)
 have HE:=Y (zM h xS)
 have xT:=Y xS
 have xy:w.heap.size < (w.alloc (D #[H id,H qty] 118)).heap.size:=by rw [zf]; omega
 have HKR:Hid (World.rangeAt (w.alloc (D #[H id,H qty] 118)) w.heap.size 0 [H id,H qty]):=zg w [H id,H qty] _
 have HPL:=Y hk
 have jj:=Y hc
 clear h xS hk hc xA
 go_enter Tryz.func69,Tryz.ntmps69
 refine ds fun tg xq=>?_
 go_wp2_with fail
 refine U xq _ _ ?_
 clear xq
 generalize (w.alloc (D #[H id,H qty] 118)) = hD at HE xT xy HKR ⊢
 have hgX:g < hD.heap.size:=by omega
 have jM:mb < hD.heap.size:=by omega
 have vV:Hid (hD.cell? (J mb 1) = some (H next)):=(U HE).cells 1 _ rfl
 have vw:Hid (hD.cell? (J mb 2) = some (.slice (some (J g 0)) l.length E)):=(U HE).cells 2 _ rfl
 have HK0:Hid (hD.cell? (yp w 0) = some (H id)):=U HKR 0 _ rfl
 have HK1c:Hid (hD.cell? (yp w 1) = some (H qty)):=U HKR 1 _ rfl
 have qX:=Y (zK (U HE).orow (by omega))
 have uQ:=row_hereE (U HE).orow hl (U jj)
 have vZ:Hid (hD.cell? (J g (k * 6 + 3)) = some (H c.left)):=uQ.1 3 _ rfl
 have HF3:Hid (hD.frozen? (J g (k * 6 + 3)) = false):=uQ.2 3 (by omega)
 have hkl':(k:Int) < l.length:=by omega
 have hk0:(0:Int) ≤ k:=by omega
 clear uQ
 refine ds fun tg xq=>?_
 refine zh (RWA (fun f=>{ tmps:=#[I mb 0,.agg #[H id,H qty],M,yn w 0,f 0,f 1,f 2,f 3,f 4,f 5,f 6,f 7,f 8,f 9,f 10,f 11,f 12,f 13,f 14,f 15,f 16,f 17,M,M,M,M,M,M,M],defers:=[] }) (CRd mb w.heap.size g l.length E k next id qty) 18 (fun V=>V.setCell (J g (k * 6 + 3)) (H qty)) hD) (by kernel_rfl) ?_ ?_ ?_
 ·exact ⟨fun _=>M,rfl,⟨fun j R=>by rw [yG] at R; split at R <;> simp at R,fun _=>⟨rfl,rfl,rfl,Nat.le_refl _,fun _ _=>rfl⟩,by simp⟩⟩
 ·rintro x hR V ⟨f,rfl,A⟩ hx xM
  have xn:=zS xM hx (acyc _ (by kernel_rfl))
  obtain ⟨V0,hb0,eV⟩:=A.m (xn 18 (by simp))
  refine U xq _ _ ?_
  clear xq
  dsimp only
  generalize f 0 = v0,f 1 = v1,f 2 = v2,f 3 = v3,f 4 = v4,f 5 = v5,f 6 = v6,f 7 = v7,f 8 = v8,f 9 = v9,f 10 = v10,f 11 = v11,f 12 = v12,f 13 = v13,f 14 = v14,f 15 = v15,f 16 = v16,f 17 = v17
  clear A xn xM hx
  have hE0:=zM (U HE) hb0
  have po:=oRow_left hE0.orow rfl (U jj) qty
  have hng:some mb ≠ (Value.slice (some (J g 0)) l.length E).ownBlock:=zj hE0.orow hE0.box (by decide)
  have hE1:EnS mb B Bo V gv gs gl next (.slice (some (J g 0)) l.length E) (l.set k { c with left:=qty }) t vo ts:=by
   rw [eV]
   refine ens_took hE0 ((yJ _ _ _ _ (fun e=>hng (by simp [Value.ownBlock]; exact (congrArg Addr.block e).symm))).trans (hE0.cells 2 _ rfl)) po.1 (aG po.2 hE0.lt hng)
  have oQ:=Y hE1
  have HKV:Hid (KeptBut mb B w V):=by
   rw [eV]
   refine zi (zz (U xT) pe) (zi (zz hb0 (by have:=(U HE).bo; have:=(U HE).le; omega)) ?_)
   exact ⟨rfl,rfl,rfl,by simp [World.setCell],fun j R _=>yQ _ _ _ _ (show j ≠ g by omega)⟩
  have z3:V.cell? (yp w 0) = some (H id):=by
   rw [eV]
   exact (yJ _ _ _ _ (fun e=>by have:=congrArg Addr.block e; simp at this; omega)).trans ((hb0.cell (p:=(yp w 0)) xy).trans (U HK0))
  have z4:V.cell? (yp w 1) = some (H qty):=by
   rw [eV]
   exact (yJ _ _ _ _ (fun e=>by have:=congrArg Addr.block e; simp at this; omega)).trans ((hb0.cell (p:=(yp w 1)) xy).trans (U HK1c))
  clear hE0 po hE1 hb0 eV vV vw vZ HF3 qX
  go_wp2_with fail
  refine (bh ⟨7,zCm,id,0,qty,0,0⟩ V (U oQ) hn).mono ?_
  rintro e w5 ⟨rfl,jl,hk5,-⟩
  have vU:=Y jl
  have jW:=Y (zi (U HKV) hk5)
  clear jl hk5
  go_wp2_with fail
  go_end0
  exact ⟨rfl,U vU,U jW⟩
 ·rintro x hR V i op ⟨f,rfl,A⟩ L hx Z xu G
  have xw:=Y A
  have n18:i < 18→x[18]? = some false:=fun xH=>by
   rcases aN hx (show 18 < 19 by omega) with hq | jT
   ·exact hq
   ·have kn:=ye L 18 rfl jT 17 rfl
    have uM:=ye L 18 rfl jT 15 rfl
    have h16:=ye L 17 rfl kn 16 rfl
    have ja:=ye L 15 rfl uM 14 rfl
    have h5:=ye L 16 rfl h16 5 rfl
    have jJ:=ye L 16 rfl h16 13 rfl
    have h4:=ye L 5 rfl h5 4 rfl
    have vI:=ye L 13 rfl jJ 10 rfl
    have qq:=ye L 13 rfl jJ 12 rfl
    have h3:=ye L 4 rfl h4 3 rfl
    have h9:=ye L 10 rfl vI 9 rfl
    have uS:=ye L 12 rfl qq 11 rfl
    have N:=ye L 3 rfl h3 2 rfl
    have h8:=ye L 9 rfl h9 8 rfl
    have Q:=ye L 2 rfl N 1 rfl
    have h7:=ye L 8 rfl h8 7 rfl
    have h0:=ye L 1 rfl Q 0 rfl
    have h6:=ye L 7 rfl h7 6 rfl
    have ug:∀ j,j < 18→x[j]? = some true:=fun j R=>by
     rcases (by omega:j = 0 ∨ j = 1 ∨ j = 2 ∨ j = 3 ∨ j = 4 ∨ j = 5 ∨ j = 6 ∨ j = 7 ∨ j = 8 ∨ j = 9 ∨ j = 10 ∨ j = 11 ∨ j = 12 ∨ j = 13 ∨ j = 14 ∨ j = 15 ∨ j = 16 ∨ j = 17) with rfl | rfl | rfl | rfl | rfl | rfl | rfl | rfl | rfl | rfl | rfl | rfl | rfl | rfl | rfl | rfl | rfl | rfl <;> assumption
    rw [ug i xH] at xu; cases xu
  match i,Z with
  | 0,Z =>
   obtain rfl:=ya Z
   clear G A L
   rw [if_pos (by rfl)];unfold Oper.wp;go_simp
   exact ⟨upd f 0 (I mb 0),by simp [upd],aj (U xw) 0 _ rfl (by decide)⟩
  | 1,Z =>
   obtain rfl:=ya Z
   have g0:f 0 = I mb 0:=A.c 0 (yd G 0 rfl)
   clear G A L
   rw [if_pos (by rfl)];unfold Oper.wp;go_simp
   exact ⟨upd f 1 (I mb 0),by simp [upd,g0],aj (U xw) 1 _ rfl (by decide)⟩
  | 2,Z =>
   obtain rfl:=ya Z
   have g1:f 1 = I mb 0:=A.c 1 (yd G 1 rfl)
   clear G A L
   rw [if_pos (by rfl)];unfold Oper.wp;go_simp
   exact ⟨upd f 2 (I mb 0),by simp [upd,g1],aj (U xw) 2 _ rfl (by decide)⟩
  | 3,Z =>
   obtain rfl:=ya Z
   have g2:f 2 = I mb 0:=A.c 2 (yd G 2 rfl)
   clear G A L
   rw [if_pos (by rfl)];unfold Oper.wp;go_simp
   exact ⟨upd f 3 (I mb 1),by simp [upd,g2],aj (U xw) 3 _ rfl (by decide)⟩
  | 4,Z =>
   obtain rfl:=ya Z
   have g3:f 3 = I mb 1:=A.c 3 (yd G 3 rfl)
   clear G A L
   rw [if_pos (by rfl)];unfold Oper.wp;go_simp
   exact ⟨upd f 4 (I mb 2),by simp [upd,g3],aj (U xw) 4 _ rfl (by decide)⟩
  | 5,Z =>
   obtain rfl:=ya Z
   have g4:f 4 = I mb 2:=A.c 4 (yd G 4 rfl)
   have xR:=A.b (n18 (by omega))
   have xk:∀ (p:Addr) u,hD.cell? p = some u→V.cell? p = some u:=fun p u hu=>(xR.cell (yI hD _ hu)).trans hu
   have z2:=xk (J mb 2) _ (U vw)
   clear G A L
   rw [if_pos (by rfl)];unfold Oper.wp;go_simp
   exact ⟨upd f 5 (.slice (some (J g 0)) l.length E),by simp [upd,g4],aj (U xw) 5 _ rfl (by decide)⟩
  | 6,Z =>
   obtain rfl:=ya Z
   clear G A L
   rw [if_pos (by rfl)];unfold Oper.wp;go_simp
   exact ⟨upd f 6 (I mb 0),by simp [upd],aj (U xw) 6 _ rfl (by decide)⟩
  | 7,Z =>
   obtain rfl:=ya Z
   have g6:f 6 = I mb 0:=A.c 6 (yd G 6 rfl)
   clear G A L
   rw [if_pos (by rfl)];unfold Oper.wp;go_simp
   exact ⟨upd f 7 (I mb 0),by simp [upd,g6],aj (U xw) 7 _ rfl (by decide)⟩
  | 8,Z =>
   obtain rfl:=ya Z
   have g7:f 7 = I mb 0:=A.c 7 (yd G 7 rfl)
   clear G A L
   rw [if_pos (by rfl)];unfold Oper.wp;go_simp
   exact ⟨upd f 8 (I mb 0),by simp [upd,g7],aj (U xw) 8 _ rfl (by decide)⟩
  | 9,Z =>
   obtain rfl:=ya Z
   have g8:f 8 = I mb 0:=A.c 8 (yd G 8 rfl)
   clear G A L
   rw [if_pos (by rfl)];unfold Oper.wp;go_simp
   exact ⟨upd f 9 (I mb 1),by simp [upd,g8],aj (U xw) 9 _ rfl (by decide)⟩
  | 10,Z =>
   obtain rfl:=ya Z
   have g9:f 9 = I mb 1:=A.c 9 (yd G 9 rfl)
   have xR:=A.b (n18 (by omega))
   have xk:∀ (p:Addr) u,hD.cell? p = some u→V.cell? p = some u:=fun p u hu=>(xR.cell (yI hD _ hu)).trans hu
   have z1:=xk (J mb 1) _ (U vV)
   have z2:=xk (J mb 2) _ (U vw)
   clear G A L
   rw [if_pos (by rfl)];unfold Oper.wp;go_simp
   exact ⟨upd f 10 (.agg #[H next,.slice (some (J g 0)) l.length E]),by simp [upd,g9],aj (U xw) 10 _ rfl (by decide)⟩
  | 11,Z =>
   obtain rfl:=ya Z
   clear G A L
   rw [if_pos (by rfl)];unfold Oper.wp;go_simp
   exact ⟨upd f 11 (yn w 0),by simp [upd],aj (U xw) 11 _ rfl (by decide)⟩
  | 12,Z =>
   obtain rfl:=ya Z
   have vB:f 11 = yn w 0:=A.c 11 (yd G 11 rfl)
   have xR:=A.b (n18 (by omega))
   have xk:∀ (p:Addr) u,hD.cell? p = some u→V.cell? p = some u:=fun p u hu=>(xR.cell (yI hD _ hu)).trans hu
   have z3:=xk (yp w 0) _ (U HK0)
   clear G A L
   rw [if_pos (by rfl)];unfold Oper.wp;go_simp
   exact ⟨upd f 12 (H id),by simp [upd,vB],aj (U xw) 12 _ rfl (by decide)⟩
  | 13,Z =>
   obtain rfl:=ya Z
   have qG:f 10 = .agg #[H next,.slice (some (J g 0)) l.length E]:=A.c 10 (yd G 10 rfl)
   have xX:f 12 = H id:=A.c 12 (yd G 12 rfl)
   have jT:=n18 (by omega)
   have HRV:=Y (zl (U qX) (A.b jT) qt)
   clear G A L
   rw [if_pos (by rfl)];unfold Oper.wp;go_simp
   refine (cH next _ l id V (U HRV)).mono ?_
   rw [U HPL]
   rintro e w4 ⟨rfl,xz⟩
   exact ⟨upd f 13 (H k),by simp [upd,qG,xX],aj (rw_grow (U xw) jT xz) 13 _ rfl (by decide)⟩
  | 14,Z =>
   obtain rfl:=ya Z
   clear G A L
   rw [if_pos (by rfl)];unfold Oper.wp;go_simp
   exact ⟨upd f 14 (yn w 1),by simp [upd],aj (U xw) 14 _ rfl (by decide)⟩
  | 15,Z =>
   obtain rfl:=ya Z
   have jY:f 14 = yn w 1:=A.c 14 (yd G 14 rfl)
   have xR:=A.b (n18 (by omega))
   have xk:∀ (p:Addr) u,hD.cell? p = some u→V.cell? p = some u:=fun p u hu=>(xR.cell (yI hD _ hu)).trans hu
   have z4:=xk (yp w 1) _ (U HK1c)
   clear G A L
   rw [if_pos (by rfl)];unfold Oper.wp;go_simp
   exact ⟨upd f 15 (H qty),by simp [upd,jY],aj (U xw) 15 _ rfl (by decide)⟩
  | 16,Z =>
   obtain rfl:=ya Z
   have g5:f 5 = .slice (some (J g 0)) l.length E:=A.c 5 (yd G 5 rfl)
   have kC:f 13 = H k:=A.c 13 (yd G 13 rfl)
   clear G A L
   rw [if_pos (by rfl)];unfold Oper.wp;go_simp
   exact ⟨upd f 16 (I g (k * 6)),by simp [upd,g5,kC],aj (U xw) 16 _ rfl (by decide)⟩
  | 17,Z =>
   obtain rfl:=ya Z
   have g16:f 16 = I g (k * 6):=A.c 16 (yd G 16 rfl)
   clear G A L
   rw [if_pos (by rfl)];unfold Oper.wp;go_simp
   exact ⟨upd f 17 (I g (k * 6 + 3)),by simp [upd,g16],aj (U xw) 17 _ rfl (by decide)⟩
  | 18,Z =>
   obtain rfl:=ya Z
   have g17:f 17 = I g (k * 6 + 3):=A.c 17 (yd G 17 rfl)
   have g15:f 15 = H qty:=A.c 15 (yd G 15 rfl)
   have xR:=A.b xu
   have y3:=(xR.cell (p:=(J g (k * 6 + 3))) hgX).trans (U vZ)
   have q3:V.frozen? (J g (k * 6 + 3)) = false:=(World.frozen?_of_block (a:=(J g (k * 6 + 3))) (xR.block g hgX)).trans (U HF3)
   clear G A L
   rw [if_pos (by rfl)];unfold Oper.wp;go_simp
   exact ⟨f,by simp [g17,g15],rw_last (U xw) xu (fun j R hx=>by match j,R with | 18,_=>trivial)⟩
  | i + 19,Z=>simp at Z
def DVE (vs:List Value) (p:Prop) (W:World) (j:Nat) (v:Value):Prop:=∀ u,vs[j]? = some u→v = u
theorem dvE_mono {vs:List Value}:∀ p W W' j v,ym W W'→DVE vs p W j v→DVE vs p W' j v:=fun _ _ _ _ _ _ h=>h
theorem cancelE_any {mb B Bo:Nat} {gv:Value} {gs:List Value} {gl:List (List Ev)} {next:Int} {vq:Value} {l:List Od} {t:Tot} {vo:Value} {ts:List Ev} (id:Int) (k:Nat) (c:Od) (w:World) (h:EnS mb B Bo w gv gs gl next vq l t vo ts) (hl:l.length ≤ 1000) (hn:ts.length ≤ 1000) (hk:plc l id = k) (hc:l[k]? = some c) (pg:0 ≤ c.left) (kE:c.left ≤ 1000000) :
  Calls Tryz.prog 68 #[I mb 0,.agg #[H id]] w fun r w'=>r = yl (.tuple #[])∧(∃ vl qi,EnS mb B Bo w' gv gs gl next vl (pO l k c c.left) t qi (ts ++ [⟨6,zCm,id,0,c.left,0,0⟩]))∧KeptBut mb B w w':=by
 have xA:l ≠ []:=by rintro rfl; simp at hc
 have kc:=(yE.1 hc).1
 obtain ⟨g,E,rfl,vO,hBg,hgw⟩:=ch h.orow xA
 have qr:=h.lt
 have pe:B ≤ w.heap.size:=yL h.bo h.le
 have xS:=dm w (D #[H id] 115)
 have HE:=Y (zM h xS)
 have xT:=Y xS
 have xy:w.heap.size < (w.alloc (D #[H id] 115)).heap.size:=by rw [zf]; omega
 have HKR:Hid (World.rangeAt (w.alloc (D #[H id] 115)) w.heap.size 0 [H id]):=zg w [H id] _
 have HKB:Hid (∃ xp,(w.alloc (D #[H id] 115)).heap[w.heap.size]? = some (.cells xp 115 (0,0))):=⟨_,heap_alloc_new w _⟩
 have HPL:=Y hk
 have jj:=Y hc
 have HC01:Hid (0 ≤ c.left∧c.left ≤ 1000000):=⟨pg,kE⟩
 clear h xS hk hc xA pg kE
 go_enter Tryz.func68,Tryz.ntmps68
 refine ds fun tg xq=>?_
 go_wp2_with fail
 refine U xq _ _ ?_
 clear xq
 generalize (w.alloc (D #[H id] 115)) = hD at HE xT xy HKR HKB ⊢
 have hgX:g < hD.heap.size:=by omega
 have jM:mb < hD.heap.size:=by omega
 have vV:Hid (hD.cell? (J mb 1) = some (H next)):=(U HE).cells 1 _ rfl
 have vw:Hid (hD.cell? (J mb 2) = some (.slice (some (J g 0)) l.length E)):=(U HE).cells 2 _ rfl
 have HK0:Hid (hD.cell? (yp w 0) = some (H id)):=U HKR 0 _ rfl
 have qX:=Y (zK (U HE).orow (by omega))
 have vZ:Hid (hD.cell? (J g (k * 6 + 3)) = some (H c.left)):=(row_hereE (U HE).orow hl (U jj)).1 3 _ rfl
 have hkl':(k:Int) < l.length:=by omega
 have hk0:(0:Int) ≤ k:=by omega
 refine ds fun tg xq=>?_
 refine zh (RG hD (fun f=>{ tmps:=#[I mb 0,.agg #[H id],M,yn w 0,f 17,f 0,f 1,f 2,f 3,f 4,f 5,f 6,f 7,f 8,f 9,f 10,f 11,f 12,f 13,f 14,f 15,f 16,M,M,M,M,M,M,M,M,M,M,M,M,M,M],defers:=[] }) 99 (DVE [I mb 0,I mb 0,I mb 0,I mb 1,I mb 2,.slice (some (J g 0)) l.length E,I mb 0,I mb 0,I mb 0,I mb 1,.agg #[H next,.slice (some (J g 0)) l.length E],yn w 0,H id,H k,I g (k * 6),I g (k * 6 + 3),H c.left,H c.left])) (by kernel_rfl) ?_ ?_ ?_
 ·exact ⟨fun _=>M,rfl,⟨rfl,rfl,rfl,Nat.le_refl _,fun _ _=>rfl⟩,fun j R=>by rw [yG] at R; split at R <;> simp at R⟩
 ·rintro x hR V ⟨f,rfl,xh,X⟩ hx xM
  have xn:=zS xM hx (acyc _ (by kernel_rfl))
  have e17:f 17 = H c.left:=X 17 (xn 17 (by simp)) _ rfl
  refine U xq _ _ ?_
  clear xq
  simp only [e17]
  generalize f 0 = v0,f 1 = v1,f 2 = v2,f 3 = v3,f 4 = v4,f 5 = v5,f 6 = v6,f 7 = v7,f 8 = v8,f 9 = v9,f 10 = v10,f 11 = v11,f 12 = v12,f 13 = v13,f 14 = v14,f 15 = v15,f 16 = v16
  have oQ:=Y (zM (U HE) xh)
  have HKV:Hid (KeptBut mb B w V):=zi (zz (U xT) pe) (zz xh (by omega))
  have z3:V.cell? (yp w 0) = some (H id):=(xh.cell (p:=(yp w 0)) xy).trans (U HK0)
  have hsV:w.heap.size < V.heap.size:=yH xy xh.size
  have HBoX:Hid (∃ xp,V.heap[w.heap.size]? = some (.cells xp 115 (0,0))):=by
   obtain ⟨xp,hc⟩:=U HKB
   exact ⟨xp,(xh.block w.heap.size xy).trans hc⟩
  clear X xn e17 xM hx xh vV vw vZ qX
  refine ds fun tg xq=>?_
  go_wp2_with fail
  refine (bh ⟨6,zCm,id,0,c.left,0,0⟩ V (U oQ) hn).mono ?_
  rintro e w5 ⟨rfl,⟨qi,jl⟩,hk5,ht5⟩
  have vU:=Y jl
  have jW:=Y (zi (U HKV) hk5)
  have z5:w5.cell? (yp w 0) = some (H id):=(yO (a:=(yp w 0)) (ht5.block w.heap.size hsV (by omega) (zj (U oQ).erow (U HBoX) (by decide)))).trans z3
  clear jl hk5 z3 ht5
  go_wp2_with fail
  refine U xq _ _ ?_
  clear xq
  refine db 7 (by kernel_rfl) (by kernel_rfl) ?_
  simp only [yR,List.take_zero,yS,List.drop_zero]
  have z5d:w5.drew.cell? (yp w 0) = some (H id):=z5
  repeat still_step
  refine wpStill_nil ?_
  go_wp2_with fail
  refine (takeFrom_any mb 1 B next id c.left _ l k c w5.drew ((U vU).cells 1 _ rfl) ((U vU).cells 2 _ rfl) (by have:=((U vU).there 2 (by omega)).2; rwa [Nat.zero_add] at this) (U vU).orow (zj (U vU).orow (U vU).box (by decide)) (U vU).lt (yL (U vU).bo (U vU).le) hl (U HPL) (U jj) (U HC01).1 (Int.le_refl _) (U HC01).2).mono ?_
  rintro e w9 ⟨vl,rfl,hc9,ho9,ht9⟩
  have HE9:=Y (ens_took (zM (U vU) (w':=w5.drew) ⟨rfl,rfl,rfl,Nat.le_refl _,fun _ _=>rfl⟩) hc9 ho9 ht9)
  have HK9:Hid (KeptBut mb B w w9):=zi (kept_drew (U jW)) (bw ht9 (yL (U vU).bo (U vU).le) (fun g' hg'=>((U vU).orow.lt g' hg').1))
  clear hc9 ho9 ht9
  go_wp2_with fail
  go_end0
  exact ⟨rfl,⟨vl,qi,U HE9⟩,U HK9⟩
 ·rintro x hR V i op ⟨f,rfl,xh,X⟩ L hx Z xu G
  clear L
  have xr:=Y xh
  have HD:=Y X
  have xk:∀ (p:Addr) u,hD.cell? p = some u→V.cell? p = some u:=fun p u hu=>(xh.cell (yI hD _ hu)).trans hu
  have HRV:=Y (zl (U qX) xh qt)
  match i,Z with
  | 0,Z | 6,Z =>
   obtain rfl:=ya Z
   clear G X xh xk
   rw [if_pos (by rfl)];unfold Oper.wp;go_simp
   exact ⟨upd f _ (I mb 0),by simp [upd],zd (U xr) (U HD) (by decide) (yf rfl)⟩
  | 1,Z =>
   obtain rfl:=ya Z
   have g0:=X 0 (yd G 0 rfl) _ rfl
   clear G X xh xk
   rw [if_pos (by rfl)];unfold Oper.wp;go_simp
   exact ⟨upd f 1 (I mb 0),by simp [upd,g0],zd (U xr) (U HD) (by decide) (yf rfl)⟩
  | 2,Z =>
   obtain rfl:=ya Z
   have g1:=X 1 (yd G 1 rfl) _ rfl
   clear G X xh xk
   rw [if_pos (by rfl)];unfold Oper.wp;go_simp
   exact ⟨upd f 2 (I mb 0),by simp [upd,g1],zd (U xr) (U HD) (by decide) (yf rfl)⟩
  | 3,Z =>
   obtain rfl:=ya Z
   have g2:=X 2 (yd G 2 rfl) _ rfl
   clear G X xh xk
   rw [if_pos (by rfl)];unfold Oper.wp;go_simp
   exact ⟨upd f 3 (I mb 1),by simp [upd,g2],zd (U xr) (U HD) (by decide) (yf rfl)⟩
  | 4,Z =>
   obtain rfl:=ya Z
   have g3:=X 3 (yd G 3 rfl) _ rfl
   clear G X xh xk
   rw [if_pos (by rfl)];unfold Oper.wp;go_simp
   exact ⟨upd f 4 (I mb 2),by simp [upd,g3],zd (U xr) (U HD) (by decide) (yf rfl)⟩
  | 5,Z =>
   obtain rfl:=ya Z
   have g4:=X 4 (yd G 4 rfl) _ rfl
   have z2:=xk (J mb 2) _ (U vw)
   clear G X xh xk
   rw [if_pos (by rfl)];unfold Oper.wp;go_simp
   exact ⟨upd f 5 (.slice (some (J g 0)) l.length E),by simp [upd,g4],zd (U xr) (U HD) (by decide) (yf rfl)⟩
  | 7,Z =>
   obtain rfl:=ya Z
   have g6:=X 6 (yd G 6 rfl) _ rfl
   clear G X xh xk
   rw [if_pos (by rfl)];unfold Oper.wp;go_simp
   exact ⟨upd f 7 (I mb 0),by simp [upd,g6],zd (U xr) (U HD) (by decide) (yf rfl)⟩
  | 8,Z =>
   obtain rfl:=ya Z
   have g7:=X 7 (yd G 7 rfl) _ rfl
   clear G X xh xk
   rw [if_pos (by rfl)];unfold Oper.wp;go_simp
   exact ⟨upd f 8 (I mb 0),by simp [upd,g7],zd (U xr) (U HD) (by decide) (yf rfl)⟩
  | 9,Z =>
   obtain rfl:=ya Z
   have g8:=X 8 (yd G 8 rfl) _ rfl
   clear G X xh xk
   rw [if_pos (by rfl)];unfold Oper.wp;go_simp
   exact ⟨upd f 9 (I mb 1),by simp [upd,g8],zd (U xr) (U HD) (by decide) (yf rfl)⟩
  | 10,Z =>
   obtain rfl:=ya Z
   have g9:=X 9 (yd G 9 rfl) _ rfl
   have z1:=xk (J mb 1) _ (U vV)
   have z2:=xk (J mb 2) _ (U vw)
   clear G X xh xk
   rw [if_pos (by rfl)];unfold Oper.wp;go_simp
   exact ⟨upd f 10 (.agg #[H next,.slice (some (J g 0)) l.length E]),by simp [upd,g9],zd (U xr) (U HD) (by decide) (yf rfl)⟩
  | 11,Z =>
   obtain rfl:=ya Z
   clear G X xh xk
   rw [if_pos (by rfl)];unfold Oper.wp;go_simp
   exact ⟨upd f 11 (yn w 0),by simp [upd],zd (U xr) (U HD) (by decide) (yf rfl)⟩
  | 12,Z =>
   obtain rfl:=ya Z
   have vB:=X 11 (yd G 11 rfl) _ rfl
   have z3:=xk (yp w 0) _ (U HK0)
   clear G X xh xk
   rw [if_pos (by rfl)];unfold Oper.wp;go_simp
   exact ⟨upd f 12 (H id),by simp [upd,vB],zd (U xr) (U HD) (by decide) (yf rfl)⟩
  | 13,Z =>
   obtain rfl:=ya Z
   have qG:=X 10 (yd G 10 rfl) _ rfl
   have xX:=X 12 (yd G 12 rfl) _ rfl
   clear G X xh xk
   rw [if_pos (by rfl)];unfold Oper.wp;go_simp
   refine (cH next _ l id V (U HRV)).mono ?_
   rw [U HPL]
   rintro e w4 ⟨rfl,xz⟩
   exact ⟨upd f 13 (H k),by simp [upd,qG,xX],bR dvE_mono (U xr) (U HD) xz (by decide) (yf rfl)⟩
  | 14,Z =>
   obtain rfl:=ya Z
   have g5:=X 5 (yd G 5 rfl) _ rfl
   have kC:=X 13 (yd G 13 rfl) _ rfl
   clear G X xh xk
   rw [if_pos (by rfl)];unfold Oper.wp;go_simp
   exact ⟨upd f 14 (I g (k * 6)),by simp [upd,g5,kC],zd (U xr) (U HD) (by decide) (yf rfl)⟩
  | 15,Z =>
   obtain rfl:=ya Z
   have jY:=X 14 (yd G 14 rfl) _ rfl
   clear G X xh xk
   rw [if_pos (by rfl)];unfold Oper.wp;go_simp
   exact ⟨upd f 15 (I g (k * 6 + 3)),by simp [upd,jY],zd (U xr) (U HD) (by decide) (yf rfl)⟩
  | 16,Z =>
   obtain rfl:=ya Z
   have g15:=X 15 (yd G 15 rfl) _ rfl
   have z3:=xk (J g (k * 6 + 3)) _ (U vZ)
   clear G X xh xk
   rw [if_pos (by rfl)];unfold Oper.wp;go_simp
   exact ⟨upd f 16 (H c.left),by simp [upd,g15],zd (U xr) (U HD) (by decide) (yf rfl)⟩
  | 17,Z =>
   obtain rfl:=ya Z
   have g16:=X 16 (yd G 16 rfl) _ rfl
   clear G X xh xk
   rw [if_pos (by rfl)];unfold Oper.wp;go_simp
   exact ⟨upd f 17 (H c.left),by simp [upd,g16],zd (U xr) (U HD) (by decide) (yf rfl)⟩
  | i + 18,Z=>simp at Z
end Go.Proofs.YtbakanofkghmiaaGreat
