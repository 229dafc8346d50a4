/-
  A command done by the engine: proved by walking the method.
-/
import Derived.Test.YtbakanofkghmiaaGreatUj29
import Derived.Test.YtbakanofkghmiaaGreatUj30
set_option linter.unusedVariables false
set_option maxHeartbeats 6400000
set_option maxRecDepth 100000
namespace Go.Proofs.YtbakanofkghmiaaGreat
open Go.RowKit
def stN (next:Int) (l:List Od) (c:Cm):Int:=if refR next l c = 0∧c.k = 1 then next + 1 else next
def stL (next:Int) (l:List Od) (c:Cm):List Od :=
 if refR next l c = 0 then
  if c.k = 1 then accL c next (matL c next 21 l c.q [])
  else if c.k = 2 then (match l[(plc l c.i).toNat]? with | some o=>aB l (plc l c.i).toNat o o.left | none=>l)
  else if c.k = 3 then (match l[(plc l c.i).toNat]? with | some o=>l.set (plc l c.i).toNat { o with left:=c.q } | none=>l)
  else l.filter ndy
 else l
def stE (next:Int) (l:List Od) (c:Cm):List Ev :=
 if refR next l c = 0 then
  if c.k = 1 then accE c next (matL c next 21 l c.q [])
  else if c.k = 2 then (match l[(plc l c.i).toNat]? with | some o=>[⟨6,zCm,c.i,0,o.left,0,0⟩] | none=>[])
  else if c.k = 3 then [⟨7,zCm,c.i,0,c.q,0,0⟩]
  else ⟨8,zCm,0,0,((l.filter dyB).length:Nat),0,0⟩ :: (l.filter dyB).map expE
 else [⟨2,⟨c.k,c.s,c.t,c.l,c.q,c.i,c.p,cutB c.g⟩,0,0,0,0,refR next l c⟩]
theorem ens_box {mb B Bo bx:Nat} {W:World} {gv:Value} {gs:List Value} {gl:List (List Ev)} {next:Int} {vq:Value} {l:List Od} {t:Tot} {vo:Value} {ts:List Ev} (h:EnS mb B Bo W gv gs gl next vq l t vo ts) (O:∃ xp,W.heap[bx]? = some (.cells xp 43 (0,0))) (o:Nat) (u:Value):EnS mb B Bo (W.setCell (J bx o) u) gv gs gl next vq l t vo ts:=by
 have xA:bx ≠ mb:=by
  rintro rfl
  obtain ⟨c1,G⟩:=O
  obtain ⟨c2,D⟩:=h.box
  rw [G] at D
  simp at D
 refine ⟨fun j u' K=>(yJ _ _ _ _ (fun e=>xA (congrArg Addr.block e))).trans (h.cells j u' K),zD h.there,zw h.grow (zl h.grow O (by decide)) _ _,h.glen,fun i g es hg vQ=>zw (h.geach i g es hg vQ) (zl (h.geach i g es hg vQ) O (by decide)) _ _,h.glt,zw h.orow (zl h.orow O (by decide)) _ _,zw h.erow (zl h.erow O (by decide)) _ _,?_,h.bo,by simp only [World.setCell,Array.size_modify]; exact h.le⟩
 obtain ⟨c2,D⟩:=h.box
 exact ⟨c2,(yQ _ _ _ _ (fun e=>xA e.symm)).trans D⟩
theorem cY {next:Int} {l:List Od} {c:Cm} (h:refR next l c = 0):c.k = 1 ∨ c.k = 2 ∨ c.k = 3 ∨ c.k = 4:=by
 rw [refR] at h
 split at h
 ·omega
 ·split at h
  ·omega
  ·split at h
   ·omega
   ·split at h
    ·omega
    ·cases h
theorem ref_new {next:Int} {l:List Od} {c:Cm} (h:refR next l c = 0) (hk:c.k = 1):newR next l c = 0:=by
 rw [refR,if_pos hk] at h
 split at h
 ·exact h
 ·cases h
theorem cJ {next:Int} {l:List Od} {c:Cm} (h:refR next l c = 0) (hk:c.k = 1):1 ≤ c.q∧c.q ≤ 1000000:=by
 have h:=ref_new h hk
 rw [newR] at h
 repeat (split at h; (· cases h))
 rename_i h7 _
 simp [betB] at h7
 omega
theorem ref_id {next:Int} {l:List Od} {c:Cm} (h:refR next l c = 0) (hk:c.k = 2 ∨ c.k = 3):∃ (k:Nat) (o:Od),plc l c.i = k∧l[k]? = some o:=by
 rcases dp l c.i with G | G
 ·exfalso
  rw [refR] at h
  rcases hk with hk | hk
  ·rw [if_neg (by omega),if_pos hk] at h
   split at h
   ·simp [idR,G] at h
   ·cases h
  ·rw [if_neg (by omega),if_neg (by omega),if_pos hk] at h
   split at h
   ·rw [redR] at h
    split at h
    ·simp [G] at h
    ·cases h
   ·cases h
 ·exact G
theorem doE_any {mb B Bo:Nat} {gv:Value} {gs:List Value} {gl:List (List Ev)} {next:Int} {vq:Value} {l:List Od} {t:Tot} (c:Cm) (w:World) (h:EnS mb B Bo w gv gs gl next vq l t (.slice none 0 0) []) (hg:GoodL l) (h0:0 ≤ next) (G:next ≤ 1000000) (oK:c.g.size ≤ maxLen) (hgn:gs.length ≤ 999) :
  Calls Tryz.prog 32 #[I mb 0,cmV c] w fun r w'=>r = yl (.tuple #[])∧(∃ Bo' qz gs' vw,EnS mb B Bo' w' qz gs' (gl ++ [stE next l c]) (stN next l c) vw (stL next l c) (wgT t (stE next l c)) (.slice none 0 0) [])∧KeptBut mb B w w':=by
 have qB:=h.lt
 have px:B ≤ w.heap.size:=yL h.bo h.le
 have vR:=hg.len
 obtain ⟨a,A,rfl,vF,hc⟩:=zR h.orow (by omega)
 have HRD0:=Y (zR h.orow (by omega))
 have pZ:=Y (fun (W:World) hW=>refusal_any next (.slice a l.length A) l c W hW (oRow_sl h.orow) hg h0 G oK)
 have HK:=Y (@cY next l c)
 have HQ:=Y (@cJ next l c)
 have qJ:=Y (@ref_id next l c)
 have uX:Hid (stN next l c = if refR next l c = 0∧c.k = 1 then next + 1 else next):=rfl
 have vC:=Y (stL.eq_1 next l c)
 have uW:=Y (stE.eq_1 next l c)
 obtain ⟨kk,s,ty,li,F,ii,pr,L⟩:=c
 generalize stN next l ⟨kk,s,ty,li,F,ii,pr,L⟩ = sN at uX ⊢
 generalize stL next l ⟨kk,s,ty,li,F,ii,pr,L⟩ = sL at vC ⊢
 generalize stE next l ⟨kk,s,ty,li,F,ii,pr,L⟩ = sE at uW ⊢
 generalize refR next l ⟨kk,s,ty,li,F,ii,pr,L⟩ = rr at pZ uX vC uW HK HQ qJ
 unfold cmV at pZ ⊢
 simp only at pZ uX vC uW HK HQ qJ oK ⊢
 have xU:=eB w (N (yv kk s ty li F ii pr L).toArray 43)
 have HE:=Y (zT h xU)
 have xW:=Y xU
 have xz:w.heap.size < (w.alloc (N (yv kk s ty li F ii pr L).toArray 43)).heap.size:=by rw [zf]; omega
 have pT:Hid (World.rangeAt (w.alloc (N (yv kk s ty li F ii pr L).toArray 43)) w.heap.size 0 (yv kk s ty li F ii pr L)):=zg w (yv kk s ty li F ii pr L) _
 have jG:Hid (World.there (w.alloc (N (yv kk s ty li F ii pr L).toArray 43)) w.heap.size 0 8):=zt w (yv kk s ty li F ii pr L) _
 have uy:Hid (∃ xp,(w.alloc (N (yv kk s ty li F ii pr L).toArray 43)).heap[w.heap.size]? = some (.cells xp 43 (0,0))):=⟨_,heap_alloc_new w _⟩
 have qM:=Y (zh (U HRD0) xU hb)
 have HG:=Y hg
 have uG:Hid (0 ≤ next∧next ≤ 1000000):=⟨h0,G⟩
 have qw:=Y oK
 clear h xU hc vF hg h0 G HRD0 oK
 go_enter_defers Tryz.func32,Tryz.ntmps32
 refine eF fun hj xq=>?_
 go_wp2_with fail
 refine U xq _ _ ?_
 clear xq
 refine eF fun hj xq=>?_
 go_wp2_with fail
 refine U xq _ _ ?_
 clear xq
 generalize (w.alloc (N (yv kk s ty li F ii pr L).toArray 43)) = xm at HE xW xz pT jG uy qM ⊢
 have vS:Hid (xm.cell? (J mb 1) = some (H next)):=(U HE).cells 1 _ rfl
 have vx:Hid (xm.cell? (J mb 2) = some (.slice a l.length A)):=(U HE).cells 2 _ rfl
 refine eF fun hj xq=>?_
 refine eF fun K2 qZ=>?_
 refine zi (RG xm (fun f=>{ tmps:=#[I mb 0,.agg (yv kk s ty li F ii pr L).toArray,M,yn w 0,f 7,M,M,M,M,I mb 0,f 0,f 1,f 2,f 3,f 4,f 5,f 6,M,M,M,M,M,M,M,M,M,M,M,M,M,M,M,M,M,M,M,M,M,M,M,M,M,M,M,M,M,M,M,M,M,M,M,M],defers:=[{ target:=.fn (.func 62) #[],args:=#[I mb 0] }] }) 99 (DVE [I mb 0,I mb 0,I mb 0,I mb 1,.agg #[H next,.slice a l.length A],.agg (yv kk s ty li F ii pr L).toArray,H rr,H rr])) (by kernel_rfl) ?_ ?_ ?_
 ·exact ⟨fun _=>M,rfl,⟨rfl,rfl,rfl,Nat.le_refl _,fun _ _=>rfl⟩,fun j K=>by rw [yG] at K; split at K <;> simp at K⟩
 rotate_left
 ·rintro x xj V i op ⟨f,rfl,xh,hD⟩ X hx Z xu Q
  clear X
  have xr:=Y xh
  have HD:=Y hD
  have xk:∀ (p:Addr) u,xm.cell? p = some u→V.cell? p = some u:=fun p u hu=>(xh.cell (yI xm _ hu)).trans hu
  have af:=Y (zh (U qM) xh hb)
  match i,Z with
  | 0,Z =>
   obtain rfl:=ya Z
   clear Q hD xh xk
   rw [if_pos (by rfl)];unfold Oper.wp;go_simp
   exact ⟨upd f 0 (I mb 0),by simp [upd],zd (U xr) (U HD) (by decide) (yf rfl)⟩
  | 1,Z =>
   obtain rfl:=ya Z
   have g0:=hD 0 (yd Q 0 rfl) _ rfl
   clear Q hD xh xk
   rw [if_pos (by rfl)];unfold Oper.wp;go_simp
   exact ⟨upd f 1 (I mb 0),by simp [upd,g0],zd (U xr) (U HD) (by decide) (yf rfl)⟩
  | 2,Z =>
   obtain rfl:=ya Z
   have g1:=hD 1 (yd Q 1 rfl) _ rfl
   clear Q hD xh xk
   rw [if_pos (by rfl)];unfold Oper.wp;go_simp
   exact ⟨upd f 2 (I mb 0),by simp [upd,g1],zd (U xr) (U HD) (by decide) (yf rfl)⟩
  | 3,Z =>
   obtain rfl:=ya Z
   have g2:=hD 2 (yd Q 2 rfl) _ rfl
   clear Q hD xh xk
   rw [if_pos (by rfl)];unfold Oper.wp;go_simp
   exact ⟨upd f 3 (I mb 1),by simp [upd,g2],zd (U xr) (U HD) (by decide) (yf rfl)⟩
  | 4,Z =>
   obtain rfl:=ya Z
   have g3:=hD 3 (yd Q 3 rfl) _ rfl
   have z1:=xk (J mb 1) _ (U vS)
   have z2:=xk (J mb 2) _ (U vx)
   clear Q hD xh xk
   rw [if_pos (by rfl)];unfold Oper.wp;go_simp
   exact ⟨upd f 4 (.agg #[H next,.slice a l.length A]),by simp [upd,g3],zd (U xr) (U HD) (by decide) (yf rfl)⟩
  | 5,Z =>
   obtain rfl:=ya Z
   have y0:=xk (yp w 0) _ (U pT 0 _ rfl)
   have y1:=xk (yp w 1) _ (U pT 1 _ rfl)
   have y2:=xk (yp w 2) _ (U pT 2 _ rfl)
   have y3:=xk (yp w 3) _ (U pT 3 _ rfl)
   have y4:=xk (yp w 4) _ (U pT 4 _ rfl)
   have y5:=xk (yp w 5) _ (U pT 5 _ rfl)
   have y6:=xk (yp w 6) _ (U pT 6 _ rfl)
   have y7:=xk (yp w 7) _ (U pT 7 _ rfl)
   clear Q hD xh xk
   rw [if_pos (by rfl)];unfold Oper.wp;go_simp
   exact ⟨upd f 5 (.agg (yv kk s ty li F ii pr L).toArray),by simp [upd],zd (U xr) (U HD) (by decide) (yf rfl)⟩
  | 6,Z =>
   obtain rfl:=ya Z
   have g4:=hD 4 (yd Q 4 rfl) _ rfl
   have g5:=hD 5 (yd Q 5 rfl) _ rfl
   clear Q hD xh xk
   rw [if_pos (by rfl)];unfold Oper.wp;go_simp
   refine (U pZ V (U af)).mono ?_
   rintro e w4 ⟨rfl,xy⟩
   exact ⟨upd f 6 (H rr),by simp [upd,g4,g5],cx dvE_mono (U xr) (U HD) xy (by decide) (yf rfl)⟩
  | 7,Z =>
   obtain rfl:=ya Z
   have g6:=hD 6 (yd Q 6 rfl) _ rfl
   clear Q hD xh xk
   rw [if_pos (by rfl)];unfold Oper.wp;go_simp
   exact ⟨upd f 7 (H rr),by simp [upd,g6],zd (U xr) (U HD) (by decide) (yf rfl)⟩
  | i + 8,Z=>simp at Z
 ·rintro x xj V ⟨f,rfl,xh,hD⟩ hx xL
  have xn:=zO xL hx (by kernel_rfl)
  have e7:f 7 = H rr:=hD 7 (xn 7 (by simp)) _ rfl
  refine U qZ _ _ ?_
  clear qZ
  simp only [e7]
  generalize f 0 = v0,f 1 = v1,f 2 = v2,f 3 = v3,f 4 = v4,f 5 = v5,f 6 = v6
  have vK:=Y (zT (U HE) xh)
  have HKV:Hid (KeptBut mb B w V):=zk (zB (U xW) px) (zB xh (by omega))
  have kh:=Y (zb (U pT) xh xz)
  have qx:=Y (ze (U jG) xh xz)
  have xr:Hid (∃ xp,V.heap[w.heap.size]? = some (.cells xp 43 (0,0))):=by obtain ⟨xp,hc⟩:=U uy; exact ⟨xp,(xh.block _ xz).trans hc⟩
  have hsV:w.heap.size < V.heap.size:=yH xz xh.size
  clear hD xn e7 xL hx xh vS vx qM HE pT jG uy pZ xW xz
  obtain ⟨y0,y1,y2,y3,y4,y5,y6,y7⟩:=yB (U kh)
  by_cases vi:rr = 0
  ·subst vi
   have pD:=U HK rfl
   rcases pD with rfl | rfl | rfl | rfl
   ·have hq:=U HQ rfl rfl
    have uI:Hid (sN = next + 1∧sL = _∧sE = _):=⟨by rw [U uX,if_pos ⟨rfl,rfl⟩],by rw [U vC,if_pos rfl,if_pos rfl],by rw [U uW,if_pos rfl,if_pos rfl]⟩
    have HLE:Hid ((accE ⟨1,s,ty,li,F,ii,pr,L⟩ next (matL ⟨1,s,ty,li,F,ii,pr,L⟩ next 21 l F [])).length ≤ 1000):=by
     have G:=dr (c:=⟨1,s,ty,li,F,ii,pr,L⟩) (id:=next) 21 l F []
     show _ ≤ _
     simp only [accE,List.cons_append,List.length_cons,yN,List.length_nil] at G ⊢
     split <;> simp <;> omega
    clear uX vC uW HQ qJ HK
    go_wp2_with fail
    refine U xq _ _ ?_
    clear xq
    go_wp2_with fail
    refine (bY ⟨1,s,ty,li,F,ii,pr,L⟩ V).mono ?_
    have jm:cmdI ⟨1,s,ty,li,F,ii,pr,L⟩ = .iface 112 (.agg #[H s,H ty,H li,H F,yi pr,yj L]):=by simp [cmdI,noV]
    rw [jm]
    clear jm
    rintro e w4 ⟨rfl,xy⟩
    have vD:=eB w4 (N #[H s,H ty,H li,H F,yi pr,yj L] 112)
    have vJ:=Y (zT (zT (U vK) xy) vD)
    have kj:Hid (KeptBut mb B w (w4.alloc (N #[H s,H ty,H li,H F,yi pr,yj L] 112))):=zk (zk (U HKV) (zB xy (by omega))) (zB vD (by have:=xy.size; omega))
    clear xy vD y0 y1 y2 y3 y4 y5 y6 y7
    have ta1:∀ W:World,Sem.run Tryz.prog (Instr.typeAssert (.iface 112 (.agg #[H s,H ty,H li,H F,yi pr,yj L])) 109 112 true) W = .ok (.tuple #[.agg #[H s,H ty,H li,H F,yi pr,yj L],.bool true]) W:=fun W=>by kernel_rfl
    have hsf:=sfl
    go_wp2_with fail
    generalize (w4.alloc (N #[H s,H ty,H li,H F,yi pr,yj L] 112)) = yb at vJ kj ⊢
    refine (acceptE_any ⟨1,s,ty,li,F,ii,pr,L⟩ yb (U vJ) (U HG) (U uG).1 (U uG).2 (show 0 ≤ F by omega) hq.2).mono ?_
    rintro e w6 ⟨rfl,⟨Bo6,vq6,vo6,kf⟩,kE⟩
    have qe:=Y kf
    have pV:=Y (zk (U kj) kE)
    clear kf kE
    go_wp2_with fail
    refine leaves_cons (f:=62) (args:=#[I mb 0]) (by simp) (by simp [go_sem]) ?_
    refine (dI .returning w6 (U qe) (U HLE) (by omega)).mono ?_
    rintro e u' w' ⟨rfl,rfl,⟨qz,hE'⟩,kR⟩
    simp only [Leaves,settle,results,Tryz.results32,go_sem]
    simp
    obtain ⟨rfl,rfl,rfl⟩:=U uI
    exact ⟨⟨_,qz,_,_,hE'⟩,zk (U pV) kR⟩
   ·obtain ⟨k,o,oJ,jn⟩:=U qJ rfl (by simp)
    have hob:=(U HG).left o (yM jn)
    have qT:(plc l ii).toNat = k:=by rw [oJ]; rfl
    have uI:Hid (sN = next∧sL = aB l k o o.left∧sE = [⟨6,zCm,ii,0,o.left,0,0⟩]):=⟨by rw [U uX,if_neg (fun h=>by have:=h.2; omega)],by rw [U vC,if_pos rfl,if_neg (by omega),if_pos rfl]; simp only [qT,jn],by rw [U uW,if_pos rfl,if_neg (by omega),if_pos rfl]; simp only [qT,jn]⟩
    have HLE:Hid (([] ++ [(⟨6,zCm,ii,0,o.left,0,0⟩:Ev)]).length ≤ 1000):=by show _ ≤ _; simp
    have HPK:=Y oJ
    have HLO:=Y jn
    clear oJ jn qT
    clear uX vC uW HQ qJ HK
    go_wp2_with fail
    refine U xq _ _ ?_
    clear xq
    go_wp2_with fail
    refine (bY ⟨2,s,ty,li,F,ii,pr,L⟩ V).mono ?_
    have jm:cmdI ⟨2,s,ty,li,F,ii,pr,L⟩ = .iface 115 (.agg #[H ii]):=by simp [cmdI]
    rw [jm]
    clear jm
    rintro e w4 ⟨rfl,xy⟩
    have vD:=eB w4 (N #[H ii] 115)
    have vJ:=Y (zT (zT (U vK) xy) vD)
    have kj:Hid (KeptBut mb B w (w4.alloc (N #[H ii] 115))):=zk (zk (U HKV) (zB xy (by omega))) (zB vD (by have:=xy.size; omega))
    clear xy vD y0 y1 y2 y3 y4 y5 y6 y7
    have ta1:∀ W:World,Sem.run Tryz.prog (Instr.typeAssert (.iface 115 (.agg #[H ii])) 109 112 true) W = .ok (.tuple #[.agg #[H 0,H 0,H 0,H 0,yi 0,yj ⟨#[]⟩],.bool false]) W:=fun W=>by kernel_rfl
    have ta2:∀ W:World,Sem.run Tryz.prog (Instr.typeAssert (.iface 115 (.agg #[H ii])) 109 115 true) W = .ok (.tuple #[.agg #[H ii],.bool true]) W:=fun W=>by kernel_rfl
    have hsf:=sfl
    go_wp2_with fail
    generalize (w4.alloc (N #[H ii] 115)) = yb at vJ kj ⊢
    refine (cancelE_any ii k o yb (U vJ) (by omega) (by simp) (U HPK) (U HLO) (by omega) hob.2).mono ?_
    rintro e w6 ⟨rfl,⟨vq6,vo6,kf⟩,kE⟩
    have qe:=Y kf
    have pV:=Y (zk (U kj) kE)
    clear kf kE
    go_wp2_with fail
    refine leaves_cons (f:=62) (args:=#[I mb 0]) (by simp) (by simp [go_sem]) ?_
    refine (dI .returning w6 (U qe) (U HLE) (by omega)).mono ?_
    rintro e u' w' ⟨rfl,rfl,⟨qz,hE'⟩,kR⟩
    simp only [Leaves,settle,results,Tryz.results32,go_sem]
    simp
    obtain ⟨rfl,rfl,rfl⟩:=U uI
    exact ⟨⟨_,qz,_,_,hE'⟩,zk (U pV) kR⟩
   ·obtain ⟨k,o,oJ,jn⟩:=U qJ rfl (by simp)
    have hob:=(U HG).left o (yM jn)
    have qT:(plc l ii).toNat = k:=by rw [oJ]; rfl
    have uI:Hid (sN = next∧sL = l.set k { o with left:=F }∧sE = [⟨7,zCm,ii,0,F,0,0⟩]):=⟨by rw [U uX,if_neg (fun h=>by have:=h.2; omega)],by rw [U vC,if_pos rfl,if_neg (by omega),if_neg (by omega),if_pos rfl]; simp only [qT,jn],by rw [U uW,if_pos rfl,if_neg (by omega),if_neg (by omega),if_pos rfl]⟩
    have HLE:Hid (([] ++ [(⟨7,zCm,ii,0,F,0,0⟩:Ev)]).length ≤ 1000):=by show _ ≤ _; simp
    have HPK:=Y oJ
    have HLO:=Y jn
    clear oJ jn qT
    clear uX vC uW HQ qJ HK
    go_wp2_with fail
    refine U xq _ _ ?_
    clear xq
    go_wp2_with fail
    refine (bY ⟨3,s,ty,li,F,ii,pr,L⟩ V).mono ?_
    have jm:cmdI ⟨3,s,ty,li,F,ii,pr,L⟩ = .iface 118 (.agg #[H ii,H F]):=by simp [cmdI]
    rw [jm]
    clear jm
    rintro e w4 ⟨rfl,xy⟩
    have vD:=eB w4 (N #[H ii,H F] 118)
    have vJ:=Y (zT (zT (U vK) xy) vD)
    have kj:Hid (KeptBut mb B w (w4.alloc (N #[H ii,H F] 118))):=zk (zk (U HKV) (zB xy (by omega))) (zB vD (by have:=xy.size; omega))
    clear xy vD y0 y1 y2 y3 y4 y5 y6 y7
    have ta1:∀ W:World,Sem.run Tryz.prog (Instr.typeAssert (.iface 118 (.agg #[H ii,H F])) 109 112 true) W = .ok (.tuple #[.agg #[H 0,H 0,H 0,H 0,yi 0,yj ⟨#[]⟩],.bool false]) W:=fun W=>by kernel_rfl
    have ta2:∀ W:World,Sem.run Tryz.prog (Instr.typeAssert (.iface 118 (.agg #[H ii,H F])) 109 115 true) W = .ok (.tuple #[.agg #[H 0],.bool false]) W:=fun W=>by kernel_rfl
    have ta3:∀ W:World,Sem.run Tryz.prog (Instr.typeAssert (.iface 118 (.agg #[H ii,H F])) 109 118 true) W = .ok (.tuple #[.agg #[H ii,H F],.bool true]) W:=fun W=>by kernel_rfl
    have hsf:=sfl
    go_wp2_with fail
    generalize (w4.alloc (N #[H ii,H F] 118)) = yb at vJ kj ⊢
    refine (reduceE_any ii F k o yb (U vJ) (by omega) (by simp) (U HPK) (U HLO)).mono ?_
    rintro e w6 ⟨rfl,⟨vo6,kf⟩,kE⟩
    have qe:=Y kf
    have pV:=Y (zk (U kj) kE)
    clear kf kE
    go_wp2_with fail
    refine leaves_cons (f:=62) (args:=#[I mb 0]) (by simp) (by simp [go_sem]) ?_
    refine (dI .returning w6 (U qe) (U HLE) (by omega)).mono ?_
    rintro e u' w' ⟨rfl,rfl,⟨qz,hE'⟩,kR⟩
    simp only [Leaves,settle,results,Tryz.results32,go_sem]
    simp
    obtain ⟨rfl,rfl,rfl⟩:=U uI
    exact ⟨⟨_,qz,_,_,hE'⟩,zk (U pV) kR⟩
   ·have uI:Hid (sN = next∧sL = _∧sE = _):=⟨by rw [U uX,if_neg (fun h=>by have:=h.2; omega)],by rw [U vC,if_pos rfl,if_neg (by omega),if_neg (by omega),if_neg (by omega)],by rw [U uW,if_pos rfl,if_neg (by omega),if_neg (by omega),if_neg (by omega)]⟩
    have HLE:Hid (([] ++ [(⟨8,zCm,0,0,((l.filter dyB).length:Nat),0,0⟩:Ev)] ++ (l.filter dyB).map expE).length ≤ 1000):=by
     have G:(l.filter dyB).length ≤ 20:=yL (List.length_filter_le _ _) vR
     show _ ≤ _
     simp only [List.nil_append,yN,List.length_cons,List.length_nil,List.length_map]; omega
    clear uX vC uW HQ qJ HK
    go_wp2_with fail
    refine U xq _ _ ?_
    clear xq
    go_wp2_with fail
    refine (bY ⟨4,s,ty,li,F,ii,pr,L⟩ V).mono ?_
    have jm:cmdI ⟨4,s,ty,li,F,ii,pr,L⟩ = .iface 121 (.agg #[]):=by simp [cmdI]
    rw [jm]
    clear jm
    rintro e w4 ⟨rfl,xy⟩
    have vD:=eB w4 (N #[] 121)
    have vJ:=Y (zT (zT (U vK) xy) vD)
    have kj:Hid (KeptBut mb B w (w4.alloc (N #[] 121))):=zk (zk (U HKV) (zB xy (by omega))) (zB vD (by have:=xy.size; omega))
    clear xy vD y0 y1 y2 y3 y4 y5 y6 y7
    have ta1:∀ W:World,Sem.run Tryz.prog (Instr.typeAssert (.iface 121 (.agg #[])) 109 112 true) W = .ok (.tuple #[.agg #[H 0,H 0,H 0,H 0,yi 0,yj ⟨#[]⟩],.bool false]) W:=fun W=>by kernel_rfl
    have ta2:∀ W:World,Sem.run Tryz.prog (Instr.typeAssert (.iface 121 (.agg #[])) 109 115 true) W = .ok (.tuple #[.agg #[H 0],.bool false]) W:=fun W=>by kernel_rfl
    have ta3:∀ W:World,Sem.run Tryz.prog (Instr.typeAssert (.iface 121 (.agg #[])) 109 118 true) W = .ok (.tuple #[.agg #[H 0,H 0],.bool false]) W:=fun W=>by kernel_rfl
    have ta4:∀ W:World,Sem.run Tryz.prog (Instr.typeAssert (.iface 121 (.agg #[])) 109 121 true) W = .ok (.tuple #[.agg #[],.bool true]) W:=fun W=>by kernel_rfl
    have hsf:=sfl
    go_wp2_with fail
    generalize (w4.alloc (N #[] 121)) = yb at vJ kj ⊢
    refine (endDayE_any yb (U vJ) (by omega) (by simp)).mono ?_
    rintro e w6 ⟨rfl,⟨vq6,vo6,kf⟩,kE⟩
    have qe:=Y kf
    have pV:=Y (zk (U kj) kE)
    clear kf kE
    go_wp2_with fail
    refine leaves_cons (f:=62) (args:=#[I mb 0]) (by simp) (by simp [go_sem]) ?_
    refine (dI .returning w6 (U qe) (U HLE) (by omega)).mono ?_
    rintro e u' w' ⟨rfl,rfl,⟨qz,hE'⟩,kR⟩
    simp only [Leaves,settle,results,Tryz.results32,go_sem]
    simp
    obtain ⟨rfl,rfl,rfl⟩:=U uI
    exact ⟨⟨_,qz,_,_,hE'⟩,zk (U pV) kR⟩
  ·have qI:(rr == 0) = false:=by rw [xb]; exact vi
   have f7:V.frozen? (yp w 7) = false:=(U qx 7 (by omega)).2
   have uI:Hid (sN = next∧sL = l∧sE = [⟨2,⟨kk,s,ty,li,F,ii,pr,cutB L⟩,0,0,0,0,rr⟩]):=⟨by rw [U uX,if_neg (fun h=>vi h.1)],by rw [U vC,if_neg vi],by rw [U uW,if_neg vi]⟩
   clear vi uX vC uW
   have HE9:=Y (ens_box (U vK) (U xr) 7 (yj (cutB L)))
   have HK9:Hid (KeptBut mb B w (V.setCell (yp w 7) (yj (cutB L)))):=zk (U HKV) ⟨rfl,rfl,rfl,by simp [World.setCell],fun k hk _=>yQ _ _ _ _ (show k ≠ w.heap.size by omega)⟩
   go_wp2_with fail
   refine (implCut_any L V (U qw)).mono ?_
   rintro e w' ⟨rfl,ul⟩
   rw [ul]
   clear ul w'
   go_wp2_with fail
   have HLE:Hid (([] ++ [⟨2,⟨kk,s,ty,li,F,ii,pr,cutB L⟩,0,0,0,0,rr⟩]:List Ev).length ≤ 1000):=by show _ ≤ _; simp
   refine (cj ⟨2,⟨kk,s,ty,li,F,ii,pr,cutB L⟩,0,0,0,0,rr⟩ _ (U HE9) (by simp)).mono ?_
   rintro e oZ ⟨rfl,⟨vo10,hE10⟩,hk10,-⟩
   have HE10:=Y hE10
   have HK10:=Y (zk (U HK9) hk10)
   clear hE10 hk10 y0 y1 y2 y3 y4 y5 y6 y7 f7
   go_wp2_with fail
   refine leaves_cons (f:=62) (args:=#[I mb 0]) (by simp) (by simp [go_sem]) ?_
   refine (dI .returning oZ (U HE10) (U HLE) (by omega)).mono ?_
   rintro e u' w' ⟨rfl,rfl,⟨qz,hE'⟩,kR⟩
   simp only [Leaves,settle,results,Tryz.results32,go_sem]
   simp
   obtain ⟨rfl,rfl,rfl⟩:=U uI
   exact ⟨⟨_,qz,_,_,hE'⟩,zk (U HK10) kR⟩
def tkS (x:Nat):Int:=if ((FloatKind.f64.format.order x 0 == some Ordering.gt) && ((FloatKind.f64.format.order x 4687829947429945344 == some Ordering.lt) || (FloatKind.f64.format.order x 4687829947429945344 == some Ordering.eq))) = true then tkN x else 0
theorem tkS_ok {x:Nat} (h:tkOk x = true):tkS x = tk x:=by
 unfold tk tkS
 rw [if_pos h]
 unfold tkOk at h
 rw [xc] at h
 rw [if_pos h.1]
theorem l01Ticks_any (x:Nat) (w:World) :
  Calls Tryz.prog 137 #[yi x] w fun e w'=>e = yl (.tuple #[H (tkS x),.bool (tkOk x)])∧w' = w:=by
 by_cases h0:FloatKind.f64.format.order x 0 = some Ordering.gt
 ·by_cases G:FloatKind.f64.format.order x 4687829947429945344 = some Ordering.lt ∨ FloatKind.f64.format.order x 4687829947429945344 = some Ordering.eq
  ·obtain ⟨r,n,jA,pC,hn⟩:=price_four h0 G
   have hn':(n:Int) < 9007199254740992:=by omega
   have eR:tkR x = r:=by unfold tkR; rw [show FloatKind.f64.format.mul x 4616189618054758400 = some r from jA]; rfl
   have eN:tkN x = n:=by unfold tkN; rw [eR,show (FloatKind.f64.decode r).toInt .zero = some (n:Int) from pC]; rfl
   have b0:(FloatKind.f64.format.order x 0 == some Ordering.gt) = true:=by rw [h0]; rfl
   have hm:∀ W,(binOp .mul 41 (yi x) (yi 4616189618054758400)).run Tryz.prog W = .ok (yi r) W:=fun W=>by
    have:FloatKind.f64.format.mul x 4616189618054758400 = some r:=jA
    simp [binOp,Op.floatArith,this]
   have hc:∀ W,(convert 41 3 (yi r)).run Tryz.prog W = .ok (H n) W:=fun W=>by
    have D:(FloatKind.f64.decode r).toInt .zero = some (n:Int):=pC
    have O:IntKind.i64.min ≤ (n:Int)∧(n:Int) ≤ IntKind.i64.max:=by
     rw [show IntKind.i64.min = -9223372036854775808 by decide,show IntKind.i64.max = 9223372036854775807 by decide]; omega
    simp [convert,run_underlying Tryz.underlying41,run_underlying Tryz.underlying3,Conv.floatToInt,D,O.1]
    intro h
    omega
   have qA:((FloatKind.f64.format.order x 4687829947429945344 == some Ordering.lt) || (FloatKind.f64.format.order x 4687829947429945344 == some Ordering.eq)) = true:=by
    rcases G with G | G <;> rw [G] <;> rfl
   have uM:tkOk x = (FloatKind.f64.format.order (floatOfInt .f64 n) r == some Ordering.eq):=by unfold tkOk; rw [eN,eR,b0,qA]; rfl
   have hS:tkS x = n:=by unfold tkS; rw [b0,qA,eN]; rfl
   clear jA pC h0 qA
   cases he:(FloatKind.f64.format.order (floatOfInt .f64 n) r == some Ordering.eq)
   all_goals
    have he2:(FloatKind.f64.format.order (floatOfInt .f64 n) r != some Ordering.eq) = !(FloatKind.f64.format.order (floatOfInt .f64 n) r == some Ordering.eq):=rfl
    rw [he] at he2
    rw [he] at uM
   ·have HT:Hid (tkS x = n∧tkOk x = false):=⟨hS,uM⟩
    clear uM eN eR hS
    rcases G with G | G
    ·have b1:(FloatKind.f64.format.order x 4687829947429945344 == some Ordering.lt) = true:=by rw [G]; rfl
     have b2:(FloatKind.f64.format.order x 4687829947429945344 == some Ordering.eq) = false:=by rw [G]; rfl
     clear G
     go_enter Tryz.func137,Tryz.ntmps137
     go_wp2
     go_ret2
     exact ⟨by rw [(U HT).1,(U HT).2]; rfl,rfl⟩
    ·have b1:(FloatKind.f64.format.order x 4687829947429945344 == some Ordering.lt) = false:=by rw [G]; rfl
     have b2:(FloatKind.f64.format.order x 4687829947429945344 == some Ordering.eq) = true:=by rw [G]; rfl
     clear G
     go_enter Tryz.func137,Tryz.ntmps137
     go_wp2
     go_ret2
     exact ⟨by rw [(U HT).1,(U HT).2]; rfl,rfl⟩
   ·have HT:Hid (tkS x = n∧tkOk x = true):=⟨hS,uM⟩
    clear uM eN eR hS
    rcases G with G | G
    ·have b1:(FloatKind.f64.format.order x 4687829947429945344 == some Ordering.lt) = true:=by rw [G]; rfl
     have b2:(FloatKind.f64.format.order x 4687829947429945344 == some Ordering.eq) = false:=by rw [G]; rfl
     clear G
     go_enter Tryz.func137,Tryz.ntmps137
     go_wp2
     go_ret2
     exact ⟨by rw [(U HT).1,(U HT).2]; rfl,rfl⟩
    ·have b1:(FloatKind.f64.format.order x 4687829947429945344 == some Ordering.lt) = false:=by rw [G]; rfl
     have b2:(FloatKind.f64.format.order x 4687829947429945344 == some Ordering.eq) = true:=by rw [G]; rfl
     clear G
     go_enter Tryz.func137,Tryz.ntmps137
     go_wp2
     go_ret2
     exact ⟨by rw [(U HT).1,(U HT).2]; rfl,rfl⟩
  ·have b0:(FloatKind.f64.format.order x 0 == some Ordering.gt) = true:=by rw [h0]; rfl
   have b1:(FloatKind.f64.format.order x 4687829947429945344 == some Ordering.lt) = false:=by rw [xb]; exact fun h=>G (.inl h)
   have b2:(FloatKind.f64.format.order x 4687829947429945344 == some Ordering.eq) = false:=by rw [xb]; exact fun h=>G (.inr h)
   have uM:tkOk x = false:=by unfold tkOk; rw [b0,b1,b2]; rfl
   have HT:Hid (tkS x = 0∧tkOk x = false):=⟨by unfold tkS; rw [b0,b1,b2]; rfl,uM⟩
   clear h0 G uM
   go_enter Tryz.func137,Tryz.ntmps137
   go_wp2
   go_ret2
   exact ⟨by rw [(U HT).1,(U HT).2]; rfl,rfl⟩
 ·have b0:(FloatKind.f64.format.order x 0 == some Ordering.gt) = false:=by rw [xb]; exact h0
  have uM:tkOk x = false:=by unfold tkOk; rw [b0]; rfl
  have HT:Hid (tkS x = 0∧tkOk x = false):=⟨by unfold tkS; rw [b0]; rfl,uM⟩
  clear h0 uM
  go_enter Tryz.func137,Tryz.ntmps137
  go_wp2
  go_ret2
  exact ⟨by rw [(U HT).1,(U HT).2]; rfl,rfl⟩
theorem bitsS_any (x:Nat) (w:World) :
  Calls Tryz.prog 166 #[yi x] w fun e w'=>e = yl (.int .u64 (fbit x))∧w' = w:=by
 have O:=fbits
 cases h:nanB x with
 | true =>
  have HF:=Y (show fbit x = 9221120237041090560 from if_pos h)
  have h':(FloatKind.f64.format.order x x != some Ordering.eq) = true:=h
  clear h
  go_enter Tryz.func166,Tryz.ntmps166
  go_wp2
  go_ret
  exact ⟨zv (by rw [U HF]; rfl),rfl⟩
 | false =>
  have HF:=Y (show fbit x = x from if_neg (by rw [h]; decide))
  have h':(FloatKind.f64.format.order x x != some Ordering.eq) = false:=h
  clear h
  go_enter Tryz.func166,Tryz.ntmps166
  go_wp2
  go_ret
  exact ⟨zv (by rw [U HF]),rfl⟩
theorem l04Zero_any (x:Nat) (w:World) :
  Calls Tryz.prog 159 #[yi x] w fun e w'=>e = yl (.bool (decide (fbit x = 0)))∧w' = w:=by
 have HL:=Y (fun w=>bitsS_any x w)
 generalize fbit x = u at *
 have hdec:decide (u = 0) = (((u:Nat):Int) == 0):=by
  by_cases h:u = 0 <;> simp [h]
 go_enter Tryz.func159,Tryz.ntmps159
 go_wp2_with fail
 refine (U HL _).mono ?_
 rintro e w' ⟨rfl,rfl⟩
 have HD:=Y hdec
 clear hdec
 go_wp2_with fail
 go_ret
 exact ⟨zq (U HD).symm,rfl⟩
theorem di (next:Int) (a:Option Addr) (n A:Nat) (c:Cm) (w:World) :
  Calls Tryz.prog 90 #[.agg #[H next,.slice a n A],cmV c] w fun e w'=>e = yl (.agg (yu next c.s (tkS c.p) c.q c.l c.g).toArray)∧ym w w':=by
 obtain ⟨k,s,t,l,q,i,p,g⟩:=c
 unfold cmV
 simp only
 have HT:=Y (fun W=>l01Ticks_any p W)
 generalize tkS p = tt at HT ⊢
 generalize tkOk p = tb at HT
 go_enter Tryz.func90,Tryz.ntmps90
 go_wp2_with fail
 refine (U HT _).mono ?_
 rintro e w' ⟨rfl,rfl⟩
 go_wp2_with fail
 go_returns
 exact ⟨rfl,by go_grown⟩
end Go.Proofs.YtbakanofkghmiaaGreat
