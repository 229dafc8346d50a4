/-
  A command done by the engine: proved by walking the method.
-/
import Derived.Test.YtbakanofkghmiaaGreatWj23
import Derived.Test.YtbakanofkghmiaaGreatWj24
set_option linter.unusedVariables false
set_option maxHeartbeats 6400000
set_option maxRecDepth 100000
namespace Go.Proofs.YtbakanofkghmiaaGreat
open Go.RowKit
def stN (next:Int) (l:List Od) (c:Cm):Int:=if refR next l c = 0∧c.k = 1 then next + 1 else next
def stL (next:Int) (l:List Od) (c:Cm):List Od :=
 if refR next l c = 0 then
  if c.k = 1 then accL c next (matL c next 21 l c.q [])
  else if c.k = 2 then (match l[(plc l c.i).toNat]? with | some o=>aN l (plc l c.i).toNat o o.left | none=>l)
  else if c.k = 3 then (match l[(plc l c.i).toNat]? with | some o=>l.set (plc l c.i).toNat { o with left:=c.q } | none=>l)
  else l.filter ndy
 else l
def stE (next:Int) (l:List Od) (c:Cm):List Ev :=
 if refR next l c = 0 then
  if c.k = 1 then accE c next (matL c next 21 l c.q [])
  else if c.k = 2 then (match l[(plc l c.i).toNat]? with | some o=>[⟨6,zCm,c.i,0,o.left,0,0⟩] | none=>[])
  else if c.k = 3 then [⟨7,zCm,c.i,0,c.q,0,0⟩]
  else ⟨8,zCm,0,0,((l.filter dyB).length:Nat),0,0⟩ :: (l.filter dyB).map expE
 else [⟨2,⟨c.k,c.s,c.t,c.l,c.q,c.i,c.p,cutB c.g⟩,0,0,0,0,refR next l c⟩]
theorem ens_box {mb B Bo bx:Nat} {W:World} {gv:Value} {gs:List Value} {gl:List (List Ev)} {next:Int} {vq:Value} {l:List Od} {t:Tot} {vo:Value} {ts:List Ev} (h:EnS mb B Bo W gv gs gl next vq l t vo ts) (F:∃ xr,W.heap[bx]? = some (.cells xr 43 (0,0))) (o:Nat) (u:Value):EnS mb B Bo (W.setCell (J bx o) u) gv gs gl next vq l t vo ts:=by
 have xB:bx ≠ mb:=by
  rintro rfl
  obtain ⟨c1,G⟩:=F
  obtain ⟨c2,E⟩:=h.box
  rw [G] at E
  simp at E
 refine ⟨fun j u' K=>(yL _ _ _ _ (fun e=>xB (congrArg Addr.block e))).trans (h.cells j u' K),zE h.there,zu h.grow (zl h.grow F (by decide)) _ _,h.glen,fun i g es hg vh=>zu (h.geach i g es hg vh) (zl (h.geach i g es hg vh) F (by decide)) _ _,h.glt,zu h.orow (zl h.orow F (by decide)) _ _,zu h.erow (zl h.erow F (by decide)) _ _,?_,h.bo,by simp only [World.setCell,Array.size_modify]; exact h.le⟩
 obtain ⟨c2,E⟩:=h.box
 exact ⟨c2,(yS _ _ _ _ (fun e=>xB e.symm)).trans E⟩
theorem di {next:Int} {l:List Od} {c:Cm} (h:refR next l c = 0):c.k = 1 ∨ c.k = 2 ∨ c.k = 3 ∨ c.k = 4:=by
 rw [refR] at h
 split at h
 ·omega
 ·split at h
  ·omega
  ·split at h
   ·omega
   ·split at h
    ·omega
    ·cases h
theorem ref_new {next:Int} {l:List Od} {c:Cm} (h:refR next l c = 0) (hk:c.k = 1):newR next l c = 0:=by
 rw [refR,if_pos hk] at h
 split at h
 ·exact h
 ·cases h
theorem cK {next:Int} {l:List Od} {c:Cm} (h:refR next l c = 0) (hk:c.k = 1):1 ≤ c.q∧c.q ≤ 1000000:=by
 have h:=ref_new h hk
 rw [newR] at h
 repeat (split at h; (· cases h))
 rename_i h7 _
 simp [betB] at h7
 omega
theorem ref_id {next:Int} {l:List Od} {c:Cm} (h:refR next l c = 0) (hk:c.k = 2 ∨ c.k = 3):∃ (k:Nat) (o:Od),plc l c.i = k∧l[k]? = some o:=by
 rcases de l c.i with G | G
 ·exfalso
  rw [refR] at h
  rcases hk with hk | hk
  ·rw [if_neg (by omega),if_pos hk] at h
   split at h
   ·simp [idR,G] at h
   ·cases h
  ·rw [if_neg (by omega),if_neg (by omega),if_pos hk] at h
   split at h
   ·rw [redR] at h
    split at h
    ·simp [G] at h
    ·cases h
   ·cases h
 ·exact G
theorem doE_any {mb B Bo:Nat} {gv:Value} {gs:List Value} {gl:List (List Ev)} {next:Int} {vq:Value} {l:List Od} {t:Tot} (c:Cm) (w:World) (h:EnS mb B Bo w gv gs gl next vq l t (.slice none 0 0) []) (hg:GoodL l) (h0:0 ≤ next) (G:next ≤ 1000000) (pW:c.g.size ≤ maxLen) (hgn:gs.length ≤ 999) :
  Calls Tryz.prog 32 #[I mb 0,cmV c] w fun r w'=>r = ym (.tuple #[])∧(∃ Bo' qE gs' vw,EnS mb B Bo' w' qE gs' (gl ++ [stE next l c]) (stN next l c) vw (stL next l c) (wgT t (stE next l c)) (.slice none 0 0) [])∧KeptBut mb B w w':=by
 have qG:=h.lt
 have pM:B ≤ w.heap.size:=yN h.bo h.le
 have vN:=hg.len
 obtain ⟨a,A,rfl,vE,hc⟩:=zN h.orow (by omega)
 have HRD0:=Y (zN h.orow (by omega))
 have oC:=Y (fun (W:World) hW=>refusal_any next (.slice a l.length A) l c W hW (oRow_sl h.orow) hg h0 G pW)
 have HK:=Y (@di next l c)
 have HQ:=Y (@cK next l c)
 have qN:=Y (@ref_id next l c)
 have vj:Hid (stN next l c = if refR next l c = 0∧c.k = 1 then next + 1 else next):=rfl
 have vP:=Y (stL.eq_1 next l c)
 have vi:=Y (stE.eq_1 next l c)
 obtain ⟨kk,s,ty,li,O,ii,pr,L⟩:=c
 generalize stN next l ⟨kk,s,ty,li,O,ii,pr,L⟩ = sN at vj ⊢
 generalize stL next l ⟨kk,s,ty,li,O,ii,pr,L⟩ = sL at vP ⊢
 generalize stE next l ⟨kk,s,ty,li,O,ii,pr,L⟩ = sE at vi ⊢
 generalize refR next l ⟨kk,s,ty,li,O,ii,pr,L⟩ = rr at oC vj vP vi HK HQ qN
 unfold cmV at oC ⊢
 simp only at oC vj vP vi HK HQ qN pW ⊢
 have xW:=eD w (eF (yw kk s ty li O ii pr L).toArray 43)
 have HE:=Y (zQ h xW)
 have xU:=Y xW
 have xA:w.heap.size < (w.alloc (eF (yw kk s ty li O ii pr L).toArray 43)).heap.size:=by rw [zh]; omega
 have au:Hid (World.rangeAt (w.alloc (eF (yw kk s ty li O ii pr L).toArray 43)) w.heap.size 0 (yw kk s ty li O ii pr L)):=zi w (yw kk s ty li O ii pr L) _
 have jI:Hid (World.there (w.alloc (eF (yw kk s ty li O ii pr L).toArray 43)) w.heap.size 0 8):=zv w (yw kk s ty li O ii pr L) _
 have ux:Hid (∃ xr,(w.alloc (eF (yw kk s ty li O ii pr L).toArray 43)).heap[w.heap.size]? = some (.cells xr 43 (0,0))):=⟨_,heap_alloc_new w _⟩
 have jl:=Y (zn (U HRD0) xW qt)
 have HG:=Y hg
 have uI:Hid (0 ≤ next∧next ≤ 1000000):=⟨h0,G⟩
 have qI:=Y pW
 clear h xW hc vE hg h0 G HRD0 pW
 go_enter_defers Tryz.func32,Tryz.ntmps32
 refine eH fun hj xu=>?_
 go_wp2_with fail
 refine U xu _ _ ?_
 clear xu
 refine eH fun hj xu=>?_
 go_wp2_with fail
 refine U xu _ _ ?_
 clear xu
 generalize (w.alloc (eF (yw kk s ty li O ii pr L).toArray 43)) = hR at HE xU xA au jI ux jl ⊢
 have qa:Hid (hR.cell? (J mb 1) = some (H next)):=(U HE).cells 1 _ rfl
 have vC:Hid (hR.cell? (J mb 2) = some (.slice a l.length A)):=(U HE).cells 2 _ rfl
 refine eH fun hj xu=>?_
 refine eH fun K2 kf=>?_
 refine zj (RG hR (fun f=>{ tmps:=#[I mb 0,.agg (yw kk s ty li O ii pr L).toArray,M,yp w 0,f 7,M,M,M,M,I mb 0,f 0,f 1,f 2,f 3,f 4,f 5,f 6,M,M,M,M,M,M,M,M,M,M,M,M,M,M,M,M,M,M,M,M,M,M,M,M,M,M,M,M,M,M,M,M,M,M,M,M],defers:=[{ target:=.fn (.func 62) #[],args:=#[I mb 0] }] }) 99 (DVE [I mb 0,I mb 0,I mb 0,I mb 1,.agg #[H next,.slice a l.length A],.agg (yw kk s ty li O ii pr L).toArray,H rr,H rr])) (by kernel_rfl) ?_ ?_ ?_
 ·exact ⟨fun _=>M,rfl,⟨rfl,rfl,rfl,Nat.le_refl _,fun _ _=>rfl⟩,fun j K=>by rw [yI] at K; split at K <;> simp at K⟩
 rotate_left
 ·rintro x xm V i op ⟨f,rfl,xk,hD⟩ xo hx Z xy Q
  clear xo
  have xv:=Y xk
  have HD:=Y hD
  have xn:∀ (p:Addr) u,hR.cell? p = some u→V.cell? p = some u:=fun p u hu=>(xk.cell (yK hR _ hu)).trans hu
  have HRV:=Y (zn (U jl) xk qt)
  match i,Z with
  | 0,Z =>
   obtain rfl:=ya Z
   clear Q hD xk xn
   rw [if_pos (by rfl)];unfold Oper.wp;go_simp
   exact ⟨upd f 0 (I mb 0),by simp [upd],zf (U xv) (U HD) (by decide) (yh rfl)⟩
  | 1,Z =>
   obtain rfl:=ya Z
   have g0:=hD 0 (ye Q 0 rfl) _ rfl
   clear Q hD xk xn
   rw [if_pos (by rfl)];unfold Oper.wp;go_simp
   exact ⟨upd f 1 (I mb 0),by simp [upd,g0],zf (U xv) (U HD) (by decide) (yh rfl)⟩
  | 2,Z =>
   obtain rfl:=ya Z
   have g1:=hD 1 (ye Q 1 rfl) _ rfl
   clear Q hD xk xn
   rw [if_pos (by rfl)];unfold Oper.wp;go_simp
   exact ⟨upd f 2 (I mb 0),by simp [upd,g1],zf (U xv) (U HD) (by decide) (yh rfl)⟩
  | 3,Z =>
   obtain rfl:=ya Z
   have g2:=hD 2 (ye Q 2 rfl) _ rfl
   clear Q hD xk xn
   rw [if_pos (by rfl)];unfold Oper.wp;go_simp
   exact ⟨upd f 3 (I mb 1),by simp [upd,g2],zf (U xv) (U HD) (by decide) (yh rfl)⟩
  | 4,Z =>
   obtain rfl:=ya Z
   have g3:=hD 3 (ye Q 3 rfl) _ rfl
   have z1:=xn (J mb 1) _ (U qa)
   have z2:=xn (J mb 2) _ (U vC)
   clear Q hD xk xn
   rw [if_pos (by rfl)];unfold Oper.wp;go_simp
   exact ⟨upd f 4 (.agg #[H next,.slice a l.length A]),by simp [upd,g3],zf (U xv) (U HD) (by decide) (yh rfl)⟩
  | 5,Z =>
   obtain rfl:=ya Z
   have y0:=xn (yq w 0) _ (U au 0 _ rfl)
   have y1:=xn (yq w 1) _ (U au 1 _ rfl)
   have y2:=xn (yq w 2) _ (U au 2 _ rfl)
   have y3:=xn (yq w 3) _ (U au 3 _ rfl)
   have y4:=xn (yq w 4) _ (U au 4 _ rfl)
   have y5:=xn (yq w 5) _ (U au 5 _ rfl)
   have y6:=xn (yq w 6) _ (U au 6 _ rfl)
   have y7:=xn (yq w 7) _ (U au 7 _ rfl)
   clear Q hD xk xn
   rw [if_pos (by rfl)];unfold Oper.wp;go_simp
   exact ⟨upd f 5 (.agg (yw kk s ty li O ii pr L).toArray),by simp [upd],zf (U xv) (U HD) (by decide) (yh rfl)⟩
  | 6,Z =>
   obtain rfl:=ya Z
   have g4:=hD 4 (ye Q 4 rfl) _ rfl
   have g5:=hD 5 (ye Q 5 rfl) _ rfl
   clear Q hD xk xn
   rw [if_pos (by rfl)];unfold Oper.wp;go_simp
   refine (U oC V (U HRV)).mono ?_
   rintro e w4 ⟨rfl,xC⟩
   exact ⟨upd f 6 (H rr),by simp [upd,g4,g5],dl dvE_mono (U xv) (U HD) xC (by decide) (yh rfl)⟩
  | 7,Z =>
   obtain rfl:=ya Z
   have g6:=hD 6 (ye Q 6 rfl) _ rfl
   clear Q hD xk xn
   rw [if_pos (by rfl)];unfold Oper.wp;go_simp
   exact ⟨upd f 7 (H rr),by simp [upd,g6],zf (U xv) (U HD) (by decide) (yh rfl)⟩
  | i + 8,Z=>simp at Z
 ·rintro x xm V ⟨f,rfl,xk,hD⟩ hx xP
  have xp:=zR xP hx (by kernel_rfl)
  have e7:f 7 = H rr:=hD 7 (xp 7 (by simp)) _ rfl
  refine U kf _ _ ?_
  clear kf
  simp only [e7]
  generalize f 0 = v0,f 1 = v1,f 2 = v2,f 3 = v3,f 4 = v4,f 5 = v5,f 6 = v6
  have vH:=Y (zQ (U HE) xk)
  have HKV:Hid (KeptBut mb B w V):=zk (zC (U xU) pM) (zC xk (by omega))
  have kq:=Y (zb (U au) xk xA)
  have qC:=Y (zg (U jI) xk xA)
  have xv:Hid (∃ xr,V.heap[w.heap.size]? = some (.cells xr 43 (0,0))):=by obtain ⟨xr,hc⟩:=U ux; exact ⟨xr,(xk.block _ xA).trans hc⟩
  have hsV:w.heap.size < V.heap.size:=yJ xA xk.size
  clear hD xp e7 xP hx xk qa vC jl HE au jI ux oC xU xA
  obtain ⟨y0,y1,y2,y3,y4,y5,y6,y7⟩:=yD (U kq)
  by_cases vf:rr = 0
  ·subst vf
   have pR:=U HK rfl
   rcases pR with rfl | rfl | rfl | rfl
   ·have hq:=U HQ rfl rfl
    have uK:Hid (sN = next + 1∧sL = _∧sE = _):=⟨by rw [U vj,if_pos ⟨rfl,rfl⟩],by rw [U vP,if_pos rfl,if_pos rfl],by rw [U vi,if_pos rfl,if_pos rfl]⟩
    have HLE:Hid ((accE ⟨1,s,ty,li,O,ii,pr,L⟩ next (matL ⟨1,s,ty,li,O,ii,pr,L⟩ next 21 l O [])).length ≤ 1000):=by
     have G:=dy (c:=⟨1,s,ty,li,O,ii,pr,L⟩) (id:=next) 21 l O []
     show _ ≤ _
     simp only [accE,List.cons_append,List.length_cons,yP,List.length_nil] at G ⊢
     split <;> simp <;> omega
    clear vj vP vi HQ qN HK
    go_wp2_with fail
    refine U xu _ _ ?_
    clear xu
    go_wp2_with fail
    refine (cG ⟨1,s,ty,li,O,ii,pr,L⟩ V).mono ?_
    have jp:cmdI ⟨1,s,ty,li,O,ii,pr,L⟩ = .iface 112 (.agg #[H s,H ty,H li,H O,yj pr,yk L]):=by simp [cmdI,noV]
    rw [jp]
    clear jp
    rintro e w4 ⟨rfl,xC⟩
    have qp:=eD w4 (eF #[H s,H ty,H li,H O,yj pr,yk L] 112)
    have vZ:=Y (zQ (zQ (U vH) xC) qp)
    have kt:Hid (KeptBut mb B w (w4.alloc (eF #[H s,H ty,H li,H O,yj pr,yk L] 112))):=zk (zk (U HKV) (zC xC (by omega))) (zC qp (by have:=xC.size; omega))
    clear xC qp y0 y1 y2 y3 y4 y5 y6 y7
    have ta1:∀ W:World,Sem.run Tryz.prog (Instr.typeAssert (.iface 112 (.agg #[H s,H ty,H li,H O,yj pr,yk L])) 109 112 true) W = .ok (.tuple #[.agg #[H s,H ty,H li,H O,yj pr,yk L],.bool true]) W:=fun W=>by kernel_rfl
    have hsf:=sfl
    go_wp2_with fail
    generalize (w4.alloc (eF #[H s,H ty,H li,H O,yj pr,yk L] 112)) = yb at vZ kt ⊢
    refine (acceptE_any ⟨1,s,ty,li,O,ii,pr,L⟩ yb (U vZ) (U HG) (U uI).1 (U uI).2 (show 0 ≤ O by omega) hq.2).mono ?_
    rintro e w6 ⟨rfl,⟨Bo6,vq6,vo6,kj⟩,kH⟩
    have qg:=Y kj
    have az:=Y (zk (U kt) kH)
    clear kj kH
    go_wp2_with fail
    refine leaves_cons (f:=62) (args:=#[I mb 0]) (by simp) (by simp [go_sem]) ?_
    refine (dN .returning w6 (U qg) (U HLE) (by omega)).mono ?_
    rintro e u' w' ⟨rfl,rfl,⟨qE,hE'⟩,kW⟩
    simp only [Leaves,settle,results,Tryz.results32,go_sem]
    simp
    obtain ⟨rfl,rfl,rfl⟩:=U uK
    exact ⟨⟨_,qE,_,_,hE'⟩,zk (U az) kW⟩
   ·obtain ⟨k,o,oY,jr⟩:=U qN rfl (by simp)
    have hob:=(U HG).left o (yO jr)
    have qZ:(plc l ii).toNat = k:=by rw [oY]; rfl
    have uK:Hid (sN = next∧sL = aN l k o o.left∧sE = [⟨6,zCm,ii,0,o.left,0,0⟩]):=⟨by rw [U vj,if_neg (fun h=>by have:=h.2; omega)],by rw [U vP,if_pos rfl,if_neg (by omega),if_pos rfl]; simp only [qZ,jr],by rw [U vi,if_pos rfl,if_neg (by omega),if_pos rfl]; simp only [qZ,jr]⟩
    have HLE:Hid (([] ++ [(⟨6,zCm,ii,0,o.left,0,0⟩:Ev)]).length ≤ 1000):=by show _ ≤ _; simp
    have HPK:=Y oY
    have HLO:=Y jr
    clear oY jr qZ
    clear vj vP vi HQ qN HK
    go_wp2_with fail
    refine U xu _ _ ?_
    clear xu
    go_wp2_with fail
    refine (cG ⟨2,s,ty,li,O,ii,pr,L⟩ V).mono ?_
    have jp:cmdI ⟨2,s,ty,li,O,ii,pr,L⟩ = .iface 115 (.agg #[H ii]):=by simp [cmdI]
    rw [jp]
    clear jp
    rintro e w4 ⟨rfl,xC⟩
    have qp:=eD w4 (eF #[H ii] 115)
    have vZ:=Y (zQ (zQ (U vH) xC) qp)
    have kt:Hid (KeptBut mb B w (w4.alloc (eF #[H ii] 115))):=zk (zk (U HKV) (zC xC (by omega))) (zC qp (by have:=xC.size; omega))
    clear xC qp y0 y1 y2 y3 y4 y5 y6 y7
    have ta1:∀ W:World,Sem.run Tryz.prog (Instr.typeAssert (.iface 115 (.agg #[H ii])) 109 112 true) W = .ok (.tuple #[.agg #[H 0,H 0,H 0,H 0,yj 0,yk ⟨#[]⟩],.bool false]) W:=fun W=>by kernel_rfl
    have ta2:∀ W:World,Sem.run Tryz.prog (Instr.typeAssert (.iface 115 (.agg #[H ii])) 109 115 true) W = .ok (.tuple #[.agg #[H ii],.bool true]) W:=fun W=>by kernel_rfl
    have hsf:=sfl
    go_wp2_with fail
    generalize (w4.alloc (eF #[H ii] 115)) = yb at vZ kt ⊢
    refine (cancelE_any ii k o yb (U vZ) (by omega) (by simp) (U HPK) (U HLO) (by omega) hob.2).mono ?_
    rintro e w6 ⟨rfl,⟨vq6,vo6,kj⟩,kH⟩
    have qg:=Y kj
    have az:=Y (zk (U kt) kH)
    clear kj kH
    go_wp2_with fail
    refine leaves_cons (f:=62) (args:=#[I mb 0]) (by simp) (by simp [go_sem]) ?_
    refine (dN .returning w6 (U qg) (U HLE) (by omega)).mono ?_
    rintro e u' w' ⟨rfl,rfl,⟨qE,hE'⟩,kW⟩
    simp only [Leaves,settle,results,Tryz.results32,go_sem]
    simp
    obtain ⟨rfl,rfl,rfl⟩:=U uK
    exact ⟨⟨_,qE,_,_,hE'⟩,zk (U az) kW⟩
   ·obtain ⟨k,o,oY,jr⟩:=U qN rfl (by simp)
    have hob:=(U HG).left o (yO jr)
    have qZ:(plc l ii).toNat = k:=by rw [oY]; rfl
    have uK:Hid (sN = next∧sL = l.set k { o with left:=O }∧sE = [⟨7,zCm,ii,0,O,0,0⟩]):=⟨by rw [U vj,if_neg (fun h=>by have:=h.2; omega)],by rw [U vP,if_pos rfl,if_neg (by omega),if_neg (by omega),if_pos rfl]; simp only [qZ,jr],by rw [U vi,if_pos rfl,if_neg (by omega),if_neg (by omega),if_pos rfl]⟩
    have HLE:Hid (([] ++ [(⟨7,zCm,ii,0,O,0,0⟩:Ev)]).length ≤ 1000):=by show _ ≤ _; simp
    have HPK:=Y oY
    have HLO:=Y jr
    clear oY jr qZ
    clear vj vP vi HQ qN HK
    go_wp2_with fail
    refine U xu _ _ ?_
    clear xu
    go_wp2_with fail
    refine (cG ⟨3,s,ty,li,O,ii,pr,L⟩ V).mono ?_
    have jp:cmdI ⟨3,s,ty,li,O,ii,pr,L⟩ = .iface 118 (.agg #[H ii,H O]):=by simp [cmdI]
    rw [jp]
    clear jp
    rintro e w4 ⟨rfl,xC⟩
    have qp:=eD w4 (eF #[H ii,H O] 118)
    have vZ:=Y (zQ (zQ (U vH) xC) qp)
    have kt:Hid (KeptBut mb B w (w4.alloc (eF #[H ii,H O] 118))):=zk (zk (U HKV) (zC xC (by omega))) (zC qp (by have:=xC.size; omega))
    clear xC qp y0 y1 y2 y3 y4 y5 y6 y7
    have ta1:∀ W:World,Sem.run Tryz.prog (Instr.typeAssert (.iface 118 (.agg #[H ii,H O])) 109 112 true) W = .ok (.tuple #[.agg #[H 0,H 0,H 0,H 0,yj 0,yk ⟨#[]⟩],.bool false]) W:=fun W=>by kernel_rfl
    have ta2:∀ W:World,Sem.run Tryz.prog (Instr.typeAssert (.iface 118 (.agg #[H ii,H O])) 109 115 true) W = .ok (.tuple #[.agg #[H 0],.bool false]) W:=fun W=>by kernel_rfl
    have ta3:∀ W:World,Sem.run Tryz.prog (Instr.typeAssert (.iface 118 (.agg #[H ii,H O])) 109 118 true) W = .ok (.tuple #[.agg #[H ii,H O],.bool true]) W:=fun W=>by kernel_rfl
    have hsf:=sfl
    go_wp2_with fail
    generalize (w4.alloc (eF #[H ii,H O] 118)) = yb at vZ kt ⊢
    refine (reduceE_any ii O k o yb (U vZ) (by omega) (by simp) (U HPK) (U HLO)).mono ?_
    rintro e w6 ⟨rfl,⟨vo6,kj⟩,kH⟩
    have qg:=Y kj
    have az:=Y (zk (U kt) kH)
    clear kj kH
    go_wp2_with fail
    refine leaves_cons (f:=62) (args:=#[I mb 0]) (by simp) (by simp [go_sem]) ?_
    refine (dN .returning w6 (U qg) (U HLE) (by omega)).mono ?_
    rintro e u' w' ⟨rfl,rfl,⟨qE,hE'⟩,kW⟩
    simp only [Leaves,settle,results,Tryz.results32,go_sem]
    simp
    obtain ⟨rfl,rfl,rfl⟩:=U uK
    exact ⟨⟨_,qE,_,_,hE'⟩,zk (U az) kW⟩
   ·have uK:Hid (sN = next∧sL = _∧sE = _):=⟨by rw [U vj,if_neg (fun h=>by have:=h.2; omega)],by rw [U vP,if_pos rfl,if_neg (by omega),if_neg (by omega),if_neg (by omega)],by rw [U vi,if_pos rfl,if_neg (by omega),if_neg (by omega),if_neg (by omega)]⟩
    have HLE:Hid (([] ++ [(⟨8,zCm,0,0,((l.filter dyB).length:Nat),0,0⟩:Ev)] ++ (l.filter dyB).map expE).length ≤ 1000):=by
     have G:(l.filter dyB).length ≤ 20:=yN (List.length_filter_le _ _) vN
     show _ ≤ _
     simp only [List.nil_append,yP,List.length_cons,List.length_nil,List.length_map]; omega
    clear vj vP vi HQ qN HK
    go_wp2_with fail
    refine U xu _ _ ?_
    clear xu
    go_wp2_with fail
    refine (cG ⟨4,s,ty,li,O,ii,pr,L⟩ V).mono ?_
    have jp:cmdI ⟨4,s,ty,li,O,ii,pr,L⟩ = .iface 121 (.agg #[]):=by simp [cmdI]
    rw [jp]
    clear jp
    rintro e w4 ⟨rfl,xC⟩
    have qp:=eD w4 (eF #[] 121)
    have vZ:=Y (zQ (zQ (U vH) xC) qp)
    have kt:Hid (KeptBut mb B w (w4.alloc (eF #[] 121))):=zk (zk (U HKV) (zC xC (by omega))) (zC qp (by have:=xC.size; omega))
    clear xC qp y0 y1 y2 y3 y4 y5 y6 y7
    have ta1:∀ W:World,Sem.run Tryz.prog (Instr.typeAssert (.iface 121 (.agg #[])) 109 112 true) W = .ok (.tuple #[.agg #[H 0,H 0,H 0,H 0,yj 0,yk ⟨#[]⟩],.bool false]) W:=fun W=>by kernel_rfl
    have ta2:∀ W:World,Sem.run Tryz.prog (Instr.typeAssert (.iface 121 (.agg #[])) 109 115 true) W = .ok (.tuple #[.agg #[H 0],.bool false]) W:=fun W=>by kernel_rfl
    have ta3:∀ W:World,Sem.run Tryz.prog (Instr.typeAssert (.iface 121 (.agg #[])) 109 118 true) W = .ok (.tuple #[.agg #[H 0,H 0],.bool false]) W:=fun W=>by kernel_rfl
    have ta4:∀ W:World,Sem.run Tryz.prog (Instr.typeAssert (.iface 121 (.agg #[])) 109 121 true) W = .ok (.tuple #[.agg #[],.bool true]) W:=fun W=>by kernel_rfl
    have hsf:=sfl
    go_wp2_with fail
    generalize (w4.alloc (eF #[] 121)) = yb at vZ kt ⊢
    refine (endDayE_any yb (U vZ) (by omega) (by simp)).mono ?_
    rintro e w6 ⟨rfl,⟨vq6,vo6,kj⟩,kH⟩
    have qg:=Y kj
    have az:=Y (zk (U kt) kH)
    clear kj kH
    go_wp2_with fail
    refine leaves_cons (f:=62) (args:=#[I mb 0]) (by simp) (by simp [go_sem]) ?_
    refine (dN .returning w6 (U qg) (U HLE) (by omega)).mono ?_
    rintro e u' w' ⟨rfl,rfl,⟨qE,hE'⟩,kW⟩
    simp only [Leaves,settle,results,Tryz.results32,go_sem]
    simp
    obtain ⟨rfl,rfl,rfl⟩:=U uK
    exact ⟨⟨_,qE,_,_,hE'⟩,zk (U az) kW⟩
  ·have qM:(rr == 0) = false:=by rw [xd]; exact vf
   have f7:V.frozen? (yq w 7) = false:=(U qC 7 (by omega)).2
   have uK:Hid (sN = next∧sL = l∧sE = [⟨2,⟨kk,s,ty,li,O,ii,pr,cutB L⟩,0,0,0,0,rr⟩]):=⟨by rw [U vj,if_neg (fun h=>vf h.1)],by rw [U vP,if_neg vf],by rw [U vi,if_neg vf]⟩
   clear vf vj vP vi
   have HE9:=Y (ens_box (U vH) (U xv) 7 (yk (cutB L)))
   have HK9:Hid (KeptBut mb B w (V.setCell (yq w 7) (yk (cutB L)))):=zk (U HKV) ⟨rfl,rfl,rfl,by simp [World.setCell],fun k hk _=>yS _ _ _ _ (show k ≠ w.heap.size by omega)⟩
   go_wp2_with fail
   refine (implCut_any L V (U qI)).mono ?_
   rintro e w' ⟨rfl,ul⟩
   rw [ul]
   clear ul w'
   go_wp2_with fail
   have HLE:Hid (([] ++ [⟨2,⟨kk,s,ty,li,O,ii,pr,cutB L⟩,0,0,0,0,rr⟩]:List Ev).length ≤ 1000):=by show _ ≤ _; simp
   refine (cI ⟨2,⟨kk,s,ty,li,O,ii,pr,cutB L⟩,0,0,0,0,rr⟩ _ (U HE9) (by simp)).mono ?_
   rintro e pz ⟨rfl,⟨vo10,hE10⟩,hk10,-⟩
   have HE10:=Y hE10
   have HK10:=Y (zk (U HK9) hk10)
   clear hE10 hk10 y0 y1 y2 y3 y4 y5 y6 y7 f7
   go_wp2_with fail
   refine leaves_cons (f:=62) (args:=#[I mb 0]) (by simp) (by simp [go_sem]) ?_
   refine (dN .returning pz (U HE10) (U HLE) (by omega)).mono ?_
   rintro e u' w' ⟨rfl,rfl,⟨qE,hE'⟩,kW⟩
   simp only [Leaves,settle,results,Tryz.results32,go_sem]
   simp
   obtain ⟨rfl,rfl,rfl⟩:=U uK
   exact ⟨⟨_,qE,_,_,hE'⟩,zk (U HK10) kW⟩
def tkS (x:Nat):Int:=if ((FloatKind.f64.format.order x 0 == some Ordering.gt) && ((FloatKind.f64.format.order x 4687829947429945344 == some Ordering.lt) || (FloatKind.f64.format.order x 4687829947429945344 == some Ordering.eq))) = true then tkN x else 0
theorem tkS_ok {x:Nat} (h:tkOk x = true):tkS x = tk x:=by
 unfold tk tkS
 rw [if_pos h]
 unfold tkOk at h
 rw [xe] at h
 rw [if_pos h.1]
theorem l01Ticks_any (x:Nat) (w:World) :
  Calls Tryz.prog 137 #[yj x] w fun e w'=>e = ym (.tuple #[H (tkS x),.bool (tkOk x)])∧w' = w:=by
 by_cases h0:FloatKind.f64.format.order x 0 = some Ordering.gt
 ·by_cases G:FloatKind.f64.format.order x 4687829947429945344 = some Ordering.lt ∨ FloatKind.f64.format.order x 4687829947429945344 = some Ordering.eq
  ·obtain ⟨r,n,jC,pQ,hn⟩:=price_four h0 G
   have hn':(n:Int) < 9007199254740992:=by omega
   have eR:tkR x = r:=by unfold tkR; rw [show FloatKind.f64.format.mul x 4616189618054758400 = some r from jC]; rfl
   have eN:tkN x = n:=by unfold tkN; rw [eR,show (FloatKind.f64.decode r).toInt .zero = some (n:Int) from pQ]; rfl
   have b0:(FloatKind.f64.format.order x 0 == some Ordering.gt) = true:=by rw [h0]; rfl
   have hm:∀ W,(binOp .mul 41 (yj x) (yj 4616189618054758400)).run Tryz.prog W = .ok (yj r) W:=fun W=>by
    have:FloatKind.f64.format.mul x 4616189618054758400 = some r:=jC
    simp [binOp,Op.floatArith,this]
   have hc:∀ W,(convert 41 3 (yj r)).run Tryz.prog W = .ok (H n) W:=fun W=>by
    have E:(FloatKind.f64.decode r).toInt .zero = some (n:Int):=pQ
    have F:IntKind.i64.min ≤ (n:Int)∧(n:Int) ≤ IntKind.i64.max:=by
     rw [show IntKind.i64.min = -9223372036854775808 by decide,show IntKind.i64.max = 9223372036854775807 by decide]; omega
    simp [convert,run_underlying Tryz.underlying41,run_underlying Tryz.underlying3,Conv.floatToInt,E,F.1]
    intro h
    omega
   have qF:((FloatKind.f64.format.order x 4687829947429945344 == some Ordering.lt) || (FloatKind.f64.format.order x 4687829947429945344 == some Ordering.eq)) = true:=by
    rcases G with G | G <;> rw [G] <;> rfl
   have vG:tkOk x = (FloatKind.f64.format.order (floatOfInt .f64 n) r == some Ordering.eq):=by unfold tkOk; rw [eN,eR,b0,qF]; rfl
   have hS:tkS x = n:=by unfold tkS; rw [b0,qF,eN]; rfl
   clear jC pQ h0 qF
   cases he:(FloatKind.f64.format.order (floatOfInt .f64 n) r == some Ordering.eq)
   all_goals
    have he2:(FloatKind.f64.format.order (floatOfInt .f64 n) r != some Ordering.eq) = !(FloatKind.f64.format.order (floatOfInt .f64 n) r == some Ordering.eq):=rfl
    rw [he] at he2
    rw [he] at vG
   ·have HT:Hid (tkS x = n∧tkOk x = false):=⟨hS,vG⟩
    clear vG eN eR hS
    rcases G with G | G
    ·have b1:(FloatKind.f64.format.order x 4687829947429945344 == some Ordering.lt) = true:=by rw [G]; rfl
     have b2:(FloatKind.f64.format.order x 4687829947429945344 == some Ordering.eq) = false:=by rw [G]; rfl
     clear G
     go_enter Tryz.func137,Tryz.ntmps137
     go_wp2
     go_ret2
     exact ⟨by rw [(U HT).1,(U HT).2]; rfl,rfl⟩
    ·have b1:(FloatKind.f64.format.order x 4687829947429945344 == some Ordering.lt) = false:=by rw [G]; rfl
     have b2:(FloatKind.f64.format.order x 4687829947429945344 == some Ordering.eq) = true:=by rw [G]; rfl
     clear G
     go_enter Tryz.func137,Tryz.ntmps137
     go_wp2
     go_ret2
     exact ⟨by rw [(U HT).1,(U HT).2]; rfl,rfl⟩
   ·have HT:Hid (tkS x = n∧tkOk x = true):=⟨hS,vG⟩
    clear vG eN eR hS
    rcases G with G | G
    ·have b1:(FloatKind.f64.format.order x 4687829947429945344 == some Ordering.lt) = true:=by rw [G]; rfl
     have b2:(FloatKind.f64.format.order x 4687829947429945344 == some Ordering.eq) = false:=by rw [G]; rfl
     clear G
     go_enter Tryz.func137,Tryz.ntmps137
     go_wp2
     go_ret2
     exact ⟨by rw [(U HT).1,(U HT).2]; rfl,rfl⟩
    ·have b1:(FloatKind.f64.format.order x 4687829947429945344 == some Ordering.lt) = false:=by rw [G]; rfl
     have b2:(FloatKind.f64.format.order x 4687829947429945344 == some Ordering.eq) = true:=by rw [G]; rfl
     clear G
     go_enter Tryz.func137,Tryz.ntmps137
     go_wp2
     go_ret2
     exact ⟨by rw [(U HT).1,(U HT).2]; rfl,rfl⟩
  ·have b0:(FloatKind.f64.format.order x 0 == some Ordering.gt) = true:=by rw [h0]; rfl
   have b1:(FloatKind.f64.format.order x 4687829947429945344 == some Ordering.lt) = false:=by rw [xd]; exact fun h=>G (.inl h)
   have b2:(FloatKind.f64.format.order x 4687829947429945344 == some Ordering.eq) = false:=by rw [xd]; exact fun h=>G (.inr h)
   have vG:tkOk x = false:=by unfold tkOk; rw [b0,b1,b2]; rfl
   have HT:Hid (tkS x = 0∧tkOk x = false):=⟨by unfold tkS; rw [b0,b1,b2]; rfl,vG⟩
   clear h0 G vG
   go_enter Tryz.func137,Tryz.ntmps137
   go_wp2
   go_ret2
   exact ⟨by rw [(U HT).1,(U HT).2]; rfl,rfl⟩
 ·have b0:(FloatKind.f64.format.order x 0 == some Ordering.gt) = false:=by rw [xd]; exact h0
  have vG:tkOk x = false:=by unfold tkOk; rw [b0]; rfl
  have HT:Hid (tkS x = 0∧tkOk x = false):=⟨by unfold tkS; rw [b0]; rfl,vG⟩
  clear h0 vG
  go_enter Tryz.func137,Tryz.ntmps137
  go_wp2
  go_ret2
  exact ⟨by rw [(U HT).1,(U HT).2]; rfl,rfl⟩
end Go.Proofs.YtbakanofkghmiaaGreat
