/-
  A command done by the engine: proved by walking the method.
-/
import Derived.Test.YtbakanofkghmiaaGreatTj30
import Derived.Test.YtbakanofkghmiaaGreatTj31
set_option linter.unusedVariables false
set_option maxHeartbeats 6400000
set_option maxRecDepth 100000
namespace Go.Proofs.YtbakanofkghmiaaGreat
open Go.RowKit
def stN (next:Int) (l:List Od) (c:Cm):Int:=if refR next l c = 0∧c.k = 1 then next + 1 else next
def stL (next:Int) (l:List Od) (c:Cm):List Od :=
 if refR next l c = 0 then
  if c.k = 1 then accL c next (matL c next 21 l c.q [])
  else if c.k = 2 then (match l[(plc l c.i).toNat]? with | some o=>pO l (plc l c.i).toNat o o.left | none=>l)
  else if c.k = 3 then (match l[(plc l c.i).toNat]? with | some o=>l.set (plc l c.i).toNat { o with left:=c.q } | none=>l)
  else l.filter ndy
 else l
def stE (next:Int) (l:List Od) (c:Cm):List Ev :=
 if refR next l c = 0 then
  if c.k = 1 then accE c next (matL c next 21 l c.q [])
  else if c.k = 2 then (match l[(plc l c.i).toNat]? with | some o=>[⟨6,zCm,c.i,0,o.left,0,0⟩] | none=>[])
  else if c.k = 3 then [⟨7,zCm,c.i,0,c.q,0,0⟩]
  else ⟨8,zCm,0,0,((l.filter dyB).length:Nat),0,0⟩ :: (l.filter dyB).map expE
 else [⟨2,⟨c.k,c.s,c.t,c.l,c.q,c.i,c.p,cutB c.g⟩,0,0,0,0,refR next l c⟩]
theorem ens_box {mb B Bo bx:Nat} {W:World} {gv:Value} {gs:List Value} {gl:List (List Ev)} {next:Int} {vq:Value} {l:List Od} {t:Tot} {vo:Value} {ts:List Ev} (h:EnS mb B Bo W gv gs gl next vq l t vo ts) (F:∃ xp,W.heap[bx]? = some (.cells xp 43 (0,0))) (o:Nat) (u:Value):EnS mb B Bo (W.setCell (J bx o) u) gv gs gl next vq l t vo ts:=by
 have xA:bx ≠ mb:=by
  rintro rfl
  obtain ⟨c1,Q⟩:=F
  obtain ⟨c2,N⟩:=h.box
  rw [Q] at N
  simp at N
 refine ⟨fun j u' R=>(yJ _ _ _ _ (fun e=>xA (congrArg Addr.block e))).trans (h.cells j u' R),zB h.there,zr h.grow (zj h.grow F (by decide)) _ _,h.glen,fun i g es hg vk=>zr (h.geach i g es hg vk) (zj (h.geach i g es hg vk) F (by decide)) _ _,h.glt,zr h.orow (zj h.orow F (by decide)) _ _,zr h.erow (zj h.erow F (by decide)) _ _,?_,h.bo,by simp only [World.setCell,Array.size_modify]; exact h.le⟩
 obtain ⟨c2,N⟩:=h.box
 exact ⟨c2,(yQ _ _ _ _ (fun e=>xA e.symm)).trans N⟩
theorem bN {next:Int} {l:List Od} {c:Cm} (h:refR next l c = 0):c.k = 1 ∨ c.k = 2 ∨ c.k = 3 ∨ c.k = 4:=by
 rw [refR] at h
 split at h
 ·omega
 ·split at h
  ·omega
  ·split at h
   ·omega
   ·split at h
    ·omega
    ·cases h
theorem ref_new {next:Int} {l:List Od} {c:Cm} (h:refR next l c = 0) (hk:c.k = 1):newR next l c = 0:=by
 rw [refR,if_pos hk] at h
 split at h
 ·exact h
 ·cases h
theorem bC {next:Int} {l:List Od} {c:Cm} (h:refR next l c = 0) (hk:c.k = 1):1 ≤ c.q∧c.q ≤ 1000000:=by
 have h:=ref_new h hk
 rw [newR] at h
 repeat (split at h; (· cases h))
 rename_i h7 _
 simp [betB] at h7
 omega
theorem ref_id {next:Int} {l:List Od} {c:Cm} (h:refR next l c = 0) (hk:c.k = 2 ∨ c.k = 3):∃ (k:Nat) (o:Od),plc l c.i = k∧l[k]? = some o:=by
 rcases cj l c.i with Q | Q
 ·exfalso
  rw [refR] at h
  rcases hk with hk | hk
  ·rw [if_neg (by omega),if_pos hk] at h
   split at h
   ·simp [idR,Q] at h
   ·cases h
  ·rw [if_neg (by omega),if_neg (by omega),if_pos hk] at h
   split at h
   ·rw [redR] at h
    split at h
    ·simp [Q] at h
    ·cases h
   ·cases h
 ·exact Q
theorem doE_any {mb B Bo:Nat} {gv:Value} {gs:List Value} {gl:List (List Ev)} {next:Int} {vq:Value} {l:List Od} {t:Tot} (c:Cm) (w:World) (h:EnS mb B Bo w gv gs gl next vq l t (.slice none 0 0) []) (hg:GoodL l) (h0:0 ≤ next) (Q:next ≤ 1000000) (oL:c.g.size ≤ maxLen) (hgn:gs.length ≤ 999) :
  Calls Tryz.prog 32 #[I mb 0,cmV c] w fun r w'=>r = yl (.tuple #[])∧(∃ Bo' qp gs' vl,EnS mb B Bo' w' qp gs' (gl ++ [stE next l c]) (stN next l c) vl (stL next l c) (wgT t (stE next l c)) (.slice none 0 0) [])∧KeptBut mb B w w':=by
 have qr:=h.lt
 have pe:B ≤ w.heap.size:=yL h.bo h.le
 have vF:=hg.len
 obtain ⟨a,E,rfl,vA,hc⟩:=zK h.orow (by omega)
 have HRD0:=Y (zK h.orow (by omega))
 have pE:=Y (fun (W:World) hW=>refusal_any next (.slice a l.length E) l c W hW (oRow_sl h.orow) hg h0 Q oL)
 have HK:=Y (@bN next l c)
 have HQ:=Y (@bC next l c)
 have qA:=Y (@ref_id next l c)
 have uZ:Hid (stN next l c = if refR next l c = 0∧c.k = 1 then next + 1 else next):=rfl
 have vH:=Y (stL.eq_1 next l c)
 have uY:=Y (stE.eq_1 next l c)
 obtain ⟨kk,s,ty,li,O,ii,pr,K⟩:=c
 generalize stN next l ⟨kk,s,ty,li,O,ii,pr,K⟩ = sN at uZ ⊢
 generalize stL next l ⟨kk,s,ty,li,O,ii,pr,K⟩ = sL at vH ⊢
 generalize stE next l ⟨kk,s,ty,li,O,ii,pr,K⟩ = sE at uY ⊢
 generalize refR next l ⟨kk,s,ty,li,O,ii,pr,K⟩ = rr at pE uZ vH uY HK HQ qA
 unfold cmV at pE ⊢
 simp only at pE uZ vH uY HK HQ qA oL ⊢
 have xS:=dm w (D (yv kk s ty li O ii pr K).toArray 43)
 have HE:=Y (zM h xS)
 have xT:=Y xS
 have xy:w.heap.size < (w.alloc (D (yv kk s ty li O ii pr K).toArray 43)).heap.size:=by rw [zf]; omega
 have py:Hid (World.rangeAt (w.alloc (D (yv kk s ty li O ii pr K).toArray 43)) w.heap.size 0 (yv kk s ty li O ii pr K)):=zg w (yv kk s ty li O ii pr K) _
 have jx:Hid (World.there (w.alloc (D (yv kk s ty li O ii pr K).toArray 43)) w.heap.size 0 8):=zt w (yv kk s ty li O ii pr K) _
 have uv:Hid (∃ xp,(w.alloc (D (yv kk s ty li O ii pr K).toArray 43)).heap[w.heap.size]? = some (.cells xp 43 (0,0))):=⟨_,heap_alloc_new w _⟩
 have qX:=Y (zl (U HRD0) xS qt)
 have HG:=Y hg
 have uB:Hid (0 ≤ next∧next ≤ 1000000):=⟨h0,Q⟩
 have qF:=Y oL
 clear h xS hc vA hg h0 Q HRD0 oL
 go_enter_defers Tryz.func32,Tryz.ntmps32
 refine ds fun tg xq=>?_
 go_wp2_with fail
 refine U xq _ _ ?_
 clear xq
 refine ds fun tg xq=>?_
 go_wp2_with fail
 refine U xq _ _ ?_
 clear xq
 generalize (w.alloc (D (yv kk s ty li O ii pr K).toArray 43)) = hD at HE xT xy py jx uv qX ⊢
 have vV:Hid (hD.cell? (J mb 1) = some (H next)):=(U HE).cells 1 _ rfl
 have vw:Hid (hD.cell? (J mb 2) = some (.slice a l.length E)):=(U HE).cells 2 _ rfl
 refine ds fun tg xq=>?_
 refine ds fun K2 jQ=>?_
 refine zh (RG hD (fun f=>{ tmps:=#[I mb 0,.agg (yv kk s ty li O ii pr K).toArray,M,yn w 0,f 7,M,M,M,M,I mb 0,f 0,f 1,f 2,f 3,f 4,f 5,f 6,M,M,M,M,M,M,M,M,M,M,M,M,M,M,M,M,M,M,M,M,M,M,M,M,M,M,M,M,M,M,M,M,M,M,M,M],defers:=[{ target:=.fn (.func 62) #[],args:=#[I mb 0] }] }) 99 (DVE [I mb 0,I mb 0,I mb 0,I mb 1,.agg #[H next,.slice a l.length E],.agg (yv kk s ty li O ii pr K).toArray,H rr,H rr])) (by kernel_rfl) ?_ ?_ ?_
 ·exact ⟨fun _=>M,rfl,⟨rfl,rfl,rfl,Nat.le_refl _,fun _ _=>rfl⟩,fun j R=>by rw [yG] at R; split at R <;> simp at R⟩
 rotate_left
 ·rintro x hR V i op ⟨f,rfl,xh,X⟩ L hx Z xu G
  clear L
  have xr:=Y xh
  have HD:=Y X
  have xk:∀ (p:Addr) u,hD.cell? p = some u→V.cell? p = some u:=fun p u hu=>(xh.cell (yI hD _ hu)).trans hu
  have HRV:=Y (zl (U qX) xh qt)
  match i,Z with
  | 0,Z =>
   obtain rfl:=ya Z
   clear G X xh xk
   rw [if_pos (by rfl)];unfold Oper.wp;go_simp
   exact ⟨upd f 0 (I mb 0),by simp [upd],zd (U xr) (U HD) (by decide) (yf rfl)⟩
  | 1,Z =>
   obtain rfl:=ya Z
   have g0:=X 0 (yd G 0 rfl) _ rfl
   clear G X xh xk
   rw [if_pos (by rfl)];unfold Oper.wp;go_simp
   exact ⟨upd f 1 (I mb 0),by simp [upd,g0],zd (U xr) (U HD) (by decide) (yf rfl)⟩
  | 2,Z =>
   obtain rfl:=ya Z
   have g1:=X 1 (yd G 1 rfl) _ rfl
   clear G X xh xk
   rw [if_pos (by rfl)];unfold Oper.wp;go_simp
   exact ⟨upd f 2 (I mb 0),by simp [upd,g1],zd (U xr) (U HD) (by decide) (yf rfl)⟩
  | 3,Z =>
   obtain rfl:=ya Z
   have g2:=X 2 (yd G 2 rfl) _ rfl
   clear G X xh xk
   rw [if_pos (by rfl)];unfold Oper.wp;go_simp
   exact ⟨upd f 3 (I mb 1),by simp [upd,g2],zd (U xr) (U HD) (by decide) (yf rfl)⟩
  | 4,Z =>
   obtain rfl:=ya Z
   have g3:=X 3 (yd G 3 rfl) _ rfl
   have z1:=xk (J mb 1) _ (U vV)
   have z2:=xk (J mb 2) _ (U vw)
   clear G X xh xk
   rw [if_pos (by rfl)];unfold Oper.wp;go_simp
   exact ⟨upd f 4 (.agg #[H next,.slice a l.length E]),by simp [upd,g3],zd (U xr) (U HD) (by decide) (yf rfl)⟩
  | 5,Z =>
   obtain rfl:=ya Z
   have y0:=xk (yp w 0) _ (U py 0 _ rfl)
   have y1:=xk (yp w 1) _ (U py 1 _ rfl)
   have y2:=xk (yp w 2) _ (U py 2 _ rfl)
   have y3:=xk (yp w 3) _ (U py 3 _ rfl)
   have y4:=xk (yp w 4) _ (U py 4 _ rfl)
   have y5:=xk (yp w 5) _ (U py 5 _ rfl)
   have y6:=xk (yp w 6) _ (U py 6 _ rfl)
   have y7:=xk (yp w 7) _ (U py 7 _ rfl)
   clear G X xh xk
   rw [if_pos (by rfl)];unfold Oper.wp;go_simp
   exact ⟨upd f 5 (.agg (yv kk s ty li O ii pr K).toArray),by simp [upd],zd (U xr) (U HD) (by decide) (yf rfl)⟩
  | 6,Z =>
   obtain rfl:=ya Z
   have g4:=X 4 (yd G 4 rfl) _ rfl
   have g5:=X 5 (yd G 5 rfl) _ rfl
   clear G X xh xk
   rw [if_pos (by rfl)];unfold Oper.wp;go_simp
   refine (U pE V (U HRV)).mono ?_
   rintro e w4 ⟨rfl,xz⟩
   exact ⟨upd f 6 (H rr),by simp [upd,g4,g5],bR dvE_mono (U xr) (U HD) xz (by decide) (yf rfl)⟩
  | 7,Z =>
   obtain rfl:=ya Z
   have g6:=X 6 (yd G 6 rfl) _ rfl
   clear G X xh xk
   rw [if_pos (by rfl)];unfold Oper.wp;go_simp
   exact ⟨upd f 7 (H rr),by simp [upd,g6],zd (U xr) (U HD) (by decide) (yf rfl)⟩
  | i + 8,Z=>simp at Z
 ·rintro x hR V ⟨f,rfl,xh,X⟩ hx xM
  have xn:=zO xM hx (by kernel_rfl)
  have e7:f 7 = H rr:=X 7 (xn 7 (by simp)) _ rfl
  refine U jQ _ _ ?_
  clear jQ
  simp only [e7]
  generalize f 0 = v0,f 1 = v1,f 2 = v2,f 3 = v3,f 4 = v4,f 5 = v5,f 6 = v6
  have vv:=Y (zM (U HE) xh)
  have HKV:Hid (KeptBut mb B w V):=zi (zz (U xT) pe) (zz xh (by omega))
  have jV:=Y (zb (U py) xh xy)
  have qn:=Y (ze (U jx) xh xy)
  have xr:Hid (∃ xp,V.heap[w.heap.size]? = some (.cells xp 43 (0,0))):=by obtain ⟨xp,hc⟩:=U uv; exact ⟨xp,(xh.block _ xy).trans hc⟩
  have hsV:w.heap.size < V.heap.size:=yH xy xh.size
  clear X xn e7 xM hx xh vV vw qX HE py jx uv pE xT xy
  obtain ⟨y0,y1,y2,y3,y4,y5,y6,y7⟩:=yB (U jV)
  by_cases uX:rr = 0
  ·subst uX
   have pl:=U HK rfl
   rcases pl with rfl | rfl | rfl | rfl
   ·have hq:=U HQ rfl rfl
    have uE:Hid (sN = next + 1∧sL = _∧sE = _):=⟨by rw [U uZ,if_pos ⟨rfl,rfl⟩],by rw [U vH,if_pos rfl,if_pos rfl],by rw [U uY,if_pos rfl,if_pos rfl]⟩
    have HLE:Hid ((accE ⟨1,s,ty,li,O,ii,pr,K⟩ next (matL ⟨1,s,ty,li,O,ii,pr,K⟩ next 21 l O [])).length ≤ 1000):=by
     have Q:=cx (c:=⟨1,s,ty,li,O,ii,pr,K⟩) (id:=next) 21 l O []
     show _ ≤ _
     simp only [accE,List.cons_append,List.length_cons,yN,List.length_nil] at Q ⊢
     split <;> simp <;> omega
    clear uZ vH uY HQ qA HK
    go_wp2_with fail
    refine U xq _ _ ?_
    clear xq
    go_wp2_with fail
    refine (aZ ⟨1,s,ty,li,O,ii,pr,K⟩ V).mono ?_
    have jc:cmdI ⟨1,s,ty,li,O,ii,pr,K⟩ = .iface 112 (.agg #[H s,H ty,H li,H O,yi pr,yj K]):=by simp [cmdI,noV]
    rw [jc]
    clear jc
    rintro e w4 ⟨rfl,xz⟩
    have qc:=dm w4 (D #[H s,H ty,H li,H O,yi pr,yj K] 112)
    have vU:=Y (zM (zM (U vv) xz) qc)
    have jW:Hid (KeptBut mb B w (w4.alloc (D #[H s,H ty,H li,H O,yi pr,yj K] 112))):=zi (zi (U HKV) (zz xz (by omega))) (zz qc (by have:=xz.size; omega))
    clear xz qc y0 y1 y2 y3 y4 y5 y6 y7
    have ta1:∀ W:World,Sem.run Tryz.prog (Instr.typeAssert (.iface 112 (.agg #[H s,H ty,H li,H O,yi pr,yj K])) 109 112 true) W = .ok (.tuple #[.agg #[H s,H ty,H li,H O,yi pr,yj K],.bool true]) W:=fun W=>by kernel_rfl
    have hsf:=sfl
    go_wp2_with fail
    generalize (w4.alloc (D #[H s,H ty,H li,H O,yi pr,yj K] 112)) = yb at vU jW ⊢
    refine (acceptE_any ⟨1,s,ty,li,O,ii,pr,K⟩ yb (U vU) (U HG) (U uB).1 (U uB).2 (show 0 ≤ O by omega) hq.2).mono ?_
    rintro e w6 ⟨rfl,⟨Bo6,vq6,vo6,jU⟩,kr⟩
    have vY:=Y jU
    have pB:=Y (zi (U jW) kr)
    clear jU kr
    go_wp2_with fail
    refine leaves_cons (f:=62) (args:=#[I mb 0]) (by simp) (by simp [go_sem]) ?_
    refine (cI .returning w6 (U vY) (U HLE) (by omega)).mono ?_
    rintro e u' w' ⟨rfl,rfl,⟨qp,hE'⟩,kF⟩
    simp only [Leaves,settle,results,Tryz.results32,go_sem]
    simp
    obtain ⟨rfl,rfl,rfl⟩:=U uE
    exact ⟨⟨_,qp,_,_,hE'⟩,zi (U pB) kF⟩
   ·obtain ⟨k,o,pp,jp⟩:=U qA rfl (by simp)
    have hob:=(U HG).left o (yM jp)
    have qL:(plc l ii).toNat = k:=by rw [pp]; rfl
    have uE:Hid (sN = next∧sL = pO l k o o.left∧sE = [⟨6,zCm,ii,0,o.left,0,0⟩]):=⟨by rw [U uZ,if_neg (fun h=>by have:=h.2; omega)],by rw [U vH,if_pos rfl,if_neg (by omega),if_pos rfl]; simp only [qL,jp],by rw [U uY,if_pos rfl,if_neg (by omega),if_pos rfl]; simp only [qL,jp]⟩
    have HLE:Hid (([] ++ [(⟨6,zCm,ii,0,o.left,0,0⟩:Ev)]).length ≤ 1000):=by show _ ≤ _; simp
    have HPK:=Y pp
    have HLO:=Y jp
    clear pp jp qL
    clear uZ vH uY HQ qA HK
    go_wp2_with fail
    refine U xq _ _ ?_
    clear xq
    go_wp2_with fail
    refine (aZ ⟨2,s,ty,li,O,ii,pr,K⟩ V).mono ?_
    have jc:cmdI ⟨2,s,ty,li,O,ii,pr,K⟩ = .iface 115 (.agg #[H ii]):=by simp [cmdI]
    rw [jc]
    clear jc
    rintro e w4 ⟨rfl,xz⟩
    have qc:=dm w4 (D #[H ii] 115)
    have vU:=Y (zM (zM (U vv) xz) qc)
    have jW:Hid (KeptBut mb B w (w4.alloc (D #[H ii] 115))):=zi (zi (U HKV) (zz xz (by omega))) (zz qc (by have:=xz.size; omega))
    clear xz qc y0 y1 y2 y3 y4 y5 y6 y7
    have ta1:∀ W:World,Sem.run Tryz.prog (Instr.typeAssert (.iface 115 (.agg #[H ii])) 109 112 true) W = .ok (.tuple #[.agg #[H 0,H 0,H 0,H 0,yi 0,yj ⟨#[]⟩],.bool false]) W:=fun W=>by kernel_rfl
    have ta2:∀ W:World,Sem.run Tryz.prog (Instr.typeAssert (.iface 115 (.agg #[H ii])) 109 115 true) W = .ok (.tuple #[.agg #[H ii],.bool true]) W:=fun W=>by kernel_rfl
    have hsf:=sfl
    go_wp2_with fail
    generalize (w4.alloc (D #[H ii] 115)) = yb at vU jW ⊢
    refine (cancelE_any ii k o yb (U vU) (by omega) (by simp) (U HPK) (U HLO) (by omega) hob.2).mono ?_
    rintro e w6 ⟨rfl,⟨vq6,vo6,jU⟩,kr⟩
    have vY:=Y jU
    have pB:=Y (zi (U jW) kr)
    clear jU kr
    go_wp2_with fail
    refine leaves_cons (f:=62) (args:=#[I mb 0]) (by simp) (by simp [go_sem]) ?_
    refine (cI .returning w6 (U vY) (U HLE) (by omega)).mono ?_
    rintro e u' w' ⟨rfl,rfl,⟨qp,hE'⟩,kF⟩
    simp only [Leaves,settle,results,Tryz.results32,go_sem]
    simp
    obtain ⟨rfl,rfl,rfl⟩:=U uE
    exact ⟨⟨_,qp,_,_,hE'⟩,zi (U pB) kF⟩
   ·obtain ⟨k,o,pp,jp⟩:=U qA rfl (by simp)
    have hob:=(U HG).left o (yM jp)
    have qL:(plc l ii).toNat = k:=by rw [pp]; rfl
    have uE:Hid (sN = next∧sL = l.set k { o with left:=O }∧sE = [⟨7,zCm,ii,0,O,0,0⟩]):=⟨by rw [U uZ,if_neg (fun h=>by have:=h.2; omega)],by rw [U vH,if_pos rfl,if_neg (by omega),if_neg (by omega),if_pos rfl]; simp only [qL,jp],by rw [U uY,if_pos rfl,if_neg (by omega),if_neg (by omega),if_pos rfl]⟩
    have HLE:Hid (([] ++ [(⟨7,zCm,ii,0,O,0,0⟩:Ev)]).length ≤ 1000):=by show _ ≤ _; simp
    have HPK:=Y pp
    have HLO:=Y jp
    clear pp jp qL
    clear uZ vH uY HQ qA HK
    go_wp2_with fail
    refine U xq _ _ ?_
    clear xq
    go_wp2_with fail
    refine (aZ ⟨3,s,ty,li,O,ii,pr,K⟩ V).mono ?_
    have jc:cmdI ⟨3,s,ty,li,O,ii,pr,K⟩ = .iface 118 (.agg #[H ii,H O]):=by simp [cmdI]
    rw [jc]
    clear jc
    rintro e w4 ⟨rfl,xz⟩
    have qc:=dm w4 (D #[H ii,H O] 118)
    have vU:=Y (zM (zM (U vv) xz) qc)
    have jW:Hid (KeptBut mb B w (w4.alloc (D #[H ii,H O] 118))):=zi (zi (U HKV) (zz xz (by omega))) (zz qc (by have:=xz.size; omega))
    clear xz qc y0 y1 y2 y3 y4 y5 y6 y7
    have ta1:∀ W:World,Sem.run Tryz.prog (Instr.typeAssert (.iface 118 (.agg #[H ii,H O])) 109 112 true) W = .ok (.tuple #[.agg #[H 0,H 0,H 0,H 0,yi 0,yj ⟨#[]⟩],.bool false]) W:=fun W=>by kernel_rfl
    have ta2:∀ W:World,Sem.run Tryz.prog (Instr.typeAssert (.iface 118 (.agg #[H ii,H O])) 109 115 true) W = .ok (.tuple #[.agg #[H 0],.bool false]) W:=fun W=>by kernel_rfl
    have ta3:∀ W:World,Sem.run Tryz.prog (Instr.typeAssert (.iface 118 (.agg #[H ii,H O])) 109 118 true) W = .ok (.tuple #[.agg #[H ii,H O],.bool true]) W:=fun W=>by kernel_rfl
    have hsf:=sfl
    go_wp2_with fail
    generalize (w4.alloc (D #[H ii,H O] 118)) = yb at vU jW ⊢
    refine (reduceE_any ii O k o yb (U vU) (by omega) (by simp) (U HPK) (U HLO)).mono ?_
    rintro e w6 ⟨rfl,⟨vo6,jU⟩,kr⟩
    have vY:=Y jU
    have pB:=Y (zi (U jW) kr)
    clear jU kr
    go_wp2_with fail
    refine leaves_cons (f:=62) (args:=#[I mb 0]) (by simp) (by simp [go_sem]) ?_
    refine (cI .returning w6 (U vY) (U HLE) (by omega)).mono ?_
    rintro e u' w' ⟨rfl,rfl,⟨qp,hE'⟩,kF⟩
    simp only [Leaves,settle,results,Tryz.results32,go_sem]
    simp
    obtain ⟨rfl,rfl,rfl⟩:=U uE
    exact ⟨⟨_,qp,_,_,hE'⟩,zi (U pB) kF⟩
   ·have uE:Hid (sN = next∧sL = _∧sE = _):=⟨by rw [U uZ,if_neg (fun h=>by have:=h.2; omega)],by rw [U vH,if_pos rfl,if_neg (by omega),if_neg (by omega),if_neg (by omega)],by rw [U uY,if_pos rfl,if_neg (by omega),if_neg (by omega),if_neg (by omega)]⟩
    have HLE:Hid (([] ++ [(⟨8,zCm,0,0,((l.filter dyB).length:Nat),0,0⟩:Ev)] ++ (l.filter dyB).map expE).length ≤ 1000):=by
     have Q:(l.filter dyB).length ≤ 20:=yL (List.length_filter_le _ _) vF
     show _ ≤ _
     simp only [List.nil_append,yN,List.length_cons,List.length_nil,List.length_map]; omega
    clear uZ vH uY HQ qA HK
    go_wp2_with fail
    refine U xq _ _ ?_
    clear xq
    go_wp2_with fail
    refine (aZ ⟨4,s,ty,li,O,ii,pr,K⟩ V).mono ?_
    have jc:cmdI ⟨4,s,ty,li,O,ii,pr,K⟩ = .iface 121 (.agg #[]):=by simp [cmdI]
    rw [jc]
    clear jc
    rintro e w4 ⟨rfl,xz⟩
    have qc:=dm w4 (D #[] 121)
    have vU:=Y (zM (zM (U vv) xz) qc)
    have jW:Hid (KeptBut mb B w (w4.alloc (D #[] 121))):=zi (zi (U HKV) (zz xz (by omega))) (zz qc (by have:=xz.size; omega))
    clear xz qc y0 y1 y2 y3 y4 y5 y6 y7
    have ta1:∀ W:World,Sem.run Tryz.prog (Instr.typeAssert (.iface 121 (.agg #[])) 109 112 true) W = .ok (.tuple #[.agg #[H 0,H 0,H 0,H 0,yi 0,yj ⟨#[]⟩],.bool false]) W:=fun W=>by kernel_rfl
    have ta2:∀ W:World,Sem.run Tryz.prog (Instr.typeAssert (.iface 121 (.agg #[])) 109 115 true) W = .ok (.tuple #[.agg #[H 0],.bool false]) W:=fun W=>by kernel_rfl
    have ta3:∀ W:World,Sem.run Tryz.prog (Instr.typeAssert (.iface 121 (.agg #[])) 109 118 true) W = .ok (.tuple #[.agg #[H 0,H 0],.bool false]) W:=fun W=>by kernel_rfl
    have ta4:∀ W:World,Sem.run Tryz.prog (Instr.typeAssert (.iface 121 (.agg #[])) 109 121 true) W = .ok (.tuple #[.agg #[],.bool true]) W:=fun W=>by kernel_rfl
    have hsf:=sfl
    go_wp2_with fail
    generalize (w4.alloc (D #[] 121)) = yb at vU jW ⊢
    refine (endDayE_any yb (U vU) (by omega) (by simp)).mono ?_
    rintro e w6 ⟨rfl,⟨vq6,vo6,jU⟩,kr⟩
    have vY:=Y jU
    have pB:=Y (zi (U jW) kr)
    clear jU kr
    go_wp2_with fail
    refine leaves_cons (f:=62) (args:=#[I mb 0]) (by simp) (by simp [go_sem]) ?_
    refine (cI .returning w6 (U vY) (U HLE) (by omega)).mono ?_
    rintro e u' w' ⟨rfl,rfl,⟨qp,hE'⟩,kF⟩
    simp only [Leaves,settle,results,Tryz.results32,go_sem]
    simp
    obtain ⟨rfl,rfl,rfl⟩:=U uE
    exact ⟨⟨_,qp,_,_,hE'⟩,zi (U pB) kF⟩
  ·have qz:(rr == 0) = false:=by rw [xb]; exact uX
   have f7:V.frozen? (yp w 7) = false:=(U qn 7 (by omega)).2
   have uE:Hid (sN = next∧sL = l∧sE = [⟨2,⟨kk,s,ty,li,O,ii,pr,cutB K⟩,0,0,0,0,rr⟩]):=⟨by rw [U uZ,if_neg (fun h=>uX h.1)],by rw [U vH,if_neg uX],by rw [U uY,if_neg uX]⟩
   clear uX uZ vH uY
   have HE9:=Y (ens_box (U vv) (U xr) 7 (yj (cutB K)))
   have HK9:Hid (KeptBut mb B w (V.setCell (yp w 7) (yj (cutB K)))):=zi (U HKV) ⟨rfl,rfl,rfl,by simp [World.setCell],fun k hk _=>yQ _ _ _ _ (show k ≠ w.heap.size by omega)⟩
   go_wp2_with fail
   refine (implCut_any K V (U qF)).mono ?_
   rintro e w' ⟨rfl,ui⟩
   rw [ui]
   clear ui w'
   go_wp2_with fail
   have HLE:Hid (([] ++ [⟨2,⟨kk,s,ty,li,O,ii,pr,cutB K⟩,0,0,0,0,rr⟩]:List Ev).length ≤ 1000):=by show _ ≤ _; simp
   refine (bh ⟨2,⟨kk,s,ty,li,O,ii,pr,cutB K⟩,0,0,0,0,rr⟩ _ (U HE9) (by simp)).mono ?_
   rintro e oN ⟨rfl,⟨vo10,hE10⟩,hk10,-⟩
   have HE10:=Y hE10
   have HK10:=Y (zi (U HK9) hk10)
   clear hE10 hk10 y0 y1 y2 y3 y4 y5 y6 y7 f7
   go_wp2_with fail
   refine leaves_cons (f:=62) (args:=#[I mb 0]) (by simp) (by simp [go_sem]) ?_
   refine (cI .returning oN (U HE10) (U HLE) (by omega)).mono ?_
   rintro e u' w' ⟨rfl,rfl,⟨qp,hE'⟩,kF⟩
   simp only [Leaves,settle,results,Tryz.results32,go_sem]
   simp
   obtain ⟨rfl,rfl,rfl⟩:=U uE
   exact ⟨⟨_,qp,_,_,hE'⟩,zi (U HK10) kF⟩
def tkS (x:Nat):Int:=if ((FloatKind.f64.format.order x 0 == some Ordering.gt) && ((FloatKind.f64.format.order x 4687829947429945344 == some Ordering.lt) || (FloatKind.f64.format.order x 4687829947429945344 == some Ordering.eq))) = true then tkN x else 0
theorem tkS_ok {x:Nat} (h:tkOk x = true):tkS x = tk x:=by
 unfold tk tkS
 rw [if_pos h]
 unfold tkOk at h
 rw [xc] at h
 rw [if_pos h.1]
theorem l01Ticks_any (x:Nat) (w:World) :
  Calls Tryz.prog 137 #[yi x] w fun e w'=>e = yl (.tuple #[H (tkS x),.bool (tkOk x)])∧w' = w:=by
 by_cases h0:FloatKind.f64.format.order x 0 = some Ordering.gt
 ·by_cases Q:FloatKind.f64.format.order x 4687829947429945344 = some Ordering.lt ∨ FloatKind.f64.format.order x 4687829947429945344 = some Ordering.eq
  ·obtain ⟨r,n,jq,pj,hn⟩:=price_four h0 Q
   have hn':(n:Int) < 9007199254740992:=by omega
   have eR:tkR x = r:=by unfold tkR; rw [show FloatKind.f64.format.mul x 4616189618054758400 = some r from jq]; rfl
   have eN:tkN x = n:=by unfold tkN; rw [eR,show (FloatKind.f64.decode r).toInt .zero = some (n:Int) from pj]; rfl
   have b0:(FloatKind.f64.format.order x 0 == some Ordering.gt) = true:=by rw [h0]; rfl
   have hm:∀ W,(binOp .mul 41 (yi x) (yi 4616189618054758400)).run Tryz.prog W = .ok (yi r) W:=fun W=>by
    have:FloatKind.f64.format.mul x 4616189618054758400 = some r:=jq
    simp [binOp,Op.floatArith,this]
   have hc:∀ W,(convert 41 3 (yi r)).run Tryz.prog W = .ok (H n) W:=fun W=>by
    have N:(FloatKind.f64.decode r).toInt .zero = some (n:Int):=pj
    have F:IntKind.i64.min ≤ (n:Int)∧(n:Int) ≤ IntKind.i64.max:=by
     rw [show IntKind.i64.min = -9223372036854775808 by decide,show IntKind.i64.max = 9223372036854775807 by decide]; omega
    simp [convert,run_underlying Tryz.underlying41,run_underlying Tryz.underlying3,Conv.floatToInt,N,F.1]
    intro h
    omega
   have qq:((FloatKind.f64.format.order x 4687829947429945344 == some Ordering.lt) || (FloatKind.f64.format.order x 4687829947429945344 == some Ordering.eq)) = true:=by
    rcases Q with Q | Q <;> rw [Q] <;> rfl
   have vS:tkOk x = (FloatKind.f64.format.order (floatOfInt .f64 n) r == some Ordering.eq):=by unfold tkOk; rw [eN,eR,b0,qq]; rfl
   have hS:tkS x = n:=by unfold tkS; rw [b0,qq,eN]; rfl
   clear jq pj h0 qq
   cases he:(FloatKind.f64.format.order (floatOfInt .f64 n) r == some Ordering.eq)
   all_goals
    have he2:(FloatKind.f64.format.order (floatOfInt .f64 n) r != some Ordering.eq) = !(FloatKind.f64.format.order (floatOfInt .f64 n) r == some Ordering.eq):=rfl
    rw [he] at he2
    rw [he] at vS
   ·have HT:Hid (tkS x = n∧tkOk x = false):=⟨hS,vS⟩
    clear vS eN eR hS
    rcases Q with Q | Q
    ·have b1:(FloatKind.f64.format.order x 4687829947429945344 == some Ordering.lt) = true:=by rw [Q]; rfl
     have b2:(FloatKind.f64.format.order x 4687829947429945344 == some Ordering.eq) = false:=by rw [Q]; rfl
     clear Q
     go_enter Tryz.func137,Tryz.ntmps137
     go_wp2
     go_ret2
     exact ⟨by rw [(U HT).1,(U HT).2]; rfl,rfl⟩
    ·have b1:(FloatKind.f64.format.order x 4687829947429945344 == some Ordering.lt) = false:=by rw [Q]; rfl
     have b2:(FloatKind.f64.format.order x 4687829947429945344 == some Ordering.eq) = true:=by rw [Q]; rfl
     clear Q
     go_enter Tryz.func137,Tryz.ntmps137
     go_wp2
     go_ret2
     exact ⟨by rw [(U HT).1,(U HT).2]; rfl,rfl⟩
   ·have HT:Hid (tkS x = n∧tkOk x = true):=⟨hS,vS⟩
    clear vS eN eR hS
    rcases Q with Q | Q
    ·have b1:(FloatKind.f64.format.order x 4687829947429945344 == some Ordering.lt) = true:=by rw [Q]; rfl
     have b2:(FloatKind.f64.format.order x 4687829947429945344 == some Ordering.eq) = false:=by rw [Q]; rfl
     clear Q
     go_enter Tryz.func137,Tryz.ntmps137
     go_wp2
     go_ret2
     exact ⟨by rw [(U HT).1,(U HT).2]; rfl,rfl⟩
    ·have b1:(FloatKind.f64.format.order x 4687829947429945344 == some Ordering.lt) = false:=by rw [Q]; rfl
     have b2:(FloatKind.f64.format.order x 4687829947429945344 == some Ordering.eq) = true:=by rw [Q]; rfl
     clear Q
     go_enter Tryz.func137,Tryz.ntmps137
     go_wp2
     go_ret2
     exact ⟨by rw [(U HT).1,(U HT).2]; rfl,rfl⟩
  ·have b0:(FloatKind.f64.format.order x 0 == some Ordering.gt) = true:=by rw [h0]; rfl
   have b1:(FloatKind.f64.format.order x 4687829947429945344 == some Ordering.lt) = false:=by rw [xb]; exact fun h=>Q (.inl h)
   have b2:(FloatKind.f64.format.order x 4687829947429945344 == some Ordering.eq) = false:=by rw [xb]; exact fun h=>Q (.inr h)
   have vS:tkOk x = false:=by unfold tkOk; rw [b0,b1,b2]; rfl
   have HT:Hid (tkS x = 0∧tkOk x = false):=⟨by unfold tkS; rw [b0,b1,b2]; rfl,vS⟩
   clear h0 Q vS
   go_enter Tryz.func137,Tryz.ntmps137
   go_wp2
   go_ret2
   exact ⟨by rw [(U HT).1,(U HT).2]; rfl,rfl⟩
 ·have b0:(FloatKind.f64.format.order x 0 == some Ordering.gt) = false:=by rw [xb]; exact h0
  have vS:tkOk x = false:=by unfold tkOk; rw [b0]; rfl
  have HT:Hid (tkS x = 0∧tkOk x = false):=⟨by unfold tkS; rw [b0]; rfl,vS⟩
  clear h0 vS
  go_enter Tryz.func137,Tryz.ntmps137
  go_wp2
  go_ret2
  exact ⟨by rw [(U HT).1,(U HT).2]; rfl,rfl⟩
end Go.Proofs.YtbakanofkghmiaaGreat
