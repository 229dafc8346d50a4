/-
  A command done by the engine: proved by walking the method.
-/
import Derived.Test.YtdliebbfcmdmaaaGreatMj24
import Derived.Test.YtdliebbfcmdmaaaGreatMj25
set_option linter.unusedVariables false
set_option maxHeartbeats 6400000
set_option maxRecDepth 100000
namespace Go.Proofs.YtdliebbfcmdmaaaGreat
open Go.RowKit
def stN (next:Int) (l:List Od) (c:Cm):Int:=if refR next l c = 0∧c.k = 1 then next + 1 else next
def stL (next:Int) (l:List Od) (c:Cm):List Od :=
 if refR next l c = 0 then
  if c.k = 1 then accL c next (matL c next 21 l c.q [])
  else if c.k = 2 then (match l[(plc l c.i).toNat]? with | some o=>az l (plc l c.i).toNat o o.left | none=>l)
  else if c.k = 3 then (match l[(plc l c.i).toNat]? with | some o=>l.set (plc l c.i).toNat { o with left:=c.q } | none=>l)
  else l.filter ndy
 else l
def stE (next:Int) (l:List Od) (c:Cm):List Ev :=
 if refR next l c = 0 then
  if c.k = 1 then accE c next (matL c next 21 l c.q [])
  else if c.k = 2 then (match l[(plc l c.i).toNat]? with | some o=>[⟨6,zCm,c.i,0,o.left,0,0⟩] | none=>[])
  else if c.k = 3 then [⟨7,zCm,c.i,0,c.q,0,0⟩]
  else ⟨8,zCm,0,0,((l.filter dyB).length:Nat),0,0⟩ :: (l.filter dyB).map expE
 else [⟨2,⟨c.k,c.s,c.t,c.l,c.q,c.i,c.p,cutB c.g⟩,0,0,0,0,refR next l c⟩]
theorem ens_box {mb B Bo bx:Nat} {W:World} {gv:Value} {gs:List Value} {gl:List (List Ev)} {next:Int} {vq:Value} {l:List Od} {t:Tot} {vo:Value} {ts:List Ev} (h:EnS mb B Bo W gv gs gl next vq l t vo ts) (L:∃ xr,W.heap[bx]? = some (.cells xr 27 (0,0))) (o:Nat) (u:Value):EnS mb B Bo (W.setCell (J bx o) u) gv gs gl next vq l t vo ts:=by
 have xB:bx ≠ mb:=by
  rintro rfl
  obtain ⟨c1,Q⟩:=L
  obtain ⟨c2,N⟩:=h.box
  rw [Q] at N
  simp at N
 refine ⟨fun j u' R=>(yL _ _ _ _ (fun e=>xB (congrArg Addr.block e))).trans (h.cells j u' R),zB h.there,zr h.grow (zj h.grow L (by decide)) _ _,h.glen,fun i g es hg vi=>zr (h.geach i g es hg vi) (zj (h.geach i g es hg vi) L (by decide)) _ _,h.glt,zr h.orow (zj h.orow L (by decide)) _ _,zr h.erow (zj h.erow L (by decide)) _ _,?_,h.bo,by simp only [World.setCell,Array.size_modify]; exact h.le⟩
 obtain ⟨c2,N⟩:=h.box
 exact ⟨c2,(yS _ _ _ _ (fun e=>xB e.symm)).trans N⟩
theorem cN {next:Int} {l:List Od} {c:Cm} (h:refR next l c = 0):c.k = 1 ∨ c.k = 2 ∨ c.k = 3 ∨ c.k = 4:=by
 rw [refR] at h
 split at h
 ·omega
 ·split at h
  ·omega
  ·split at h
   ·omega
   ·split at h
    ·omega
    ·cases h
theorem ref_new {next:Int} {l:List Od} {c:Cm} (h:refR next l c = 0) (hk:c.k = 1):newR next l c = 0:=by
 rw [refR,if_pos hk] at h
 split at h
 ·exact h
 ·cases h
theorem bY {next:Int} {l:List Od} {c:Cm} (h:refR next l c = 0) (hk:c.k = 1):1 ≤ c.q∧c.q ≤ 1000000:=by
 have h:=ref_new h hk
 rw [newR] at h
 repeat (split at h; (· cases h))
 rename_i h7 _
 simp [betB] at h7
 omega
theorem ref_id {next:Int} {l:List Od} {c:Cm} (h:refR next l c = 0) (hk:c.k = 2 ∨ c.k = 3):∃ (k:Nat) (o:Od),plc l c.i = k∧l[k]? = some o:=by
 rcases dg l c.i with Q | Q
 ·exfalso
  rw [refR] at h
  rcases hk with hk | hk
  ·rw [if_neg (by omega),if_pos hk] at h
   split at h
   ·simp [idR,Q] at h
   ·cases h
  ·rw [if_neg (by omega),if_neg (by omega),if_pos hk] at h
   split at h
   ·rw [redR] at h
    split at h
    ·simp [Q] at h
    ·cases h
   ·cases h
 ·exact Q
theorem doE_any {mb B Bo:Nat} {gv:Value} {gs:List Value} {gl:List (List Ev)} {next:Int} {vq:Value} {l:List Od} {t:Tot} (c:Cm) (w:World) (h:EnS mb B Bo w gv gs gl next vq l t (.slice none 0 0) []) (hg:GoodL l) (h0:0 ≤ next) (Q:next ≤ 1000000) (pM:c.g.size ≤ maxLen) (hgn:gs.length ≤ 999) :
  Calls Tryz.prog 14 #[I mb 0,cmV c] w fun r w'=>r = ym (.tuple #[])∧(∃ Bo' qx gs' vw,EnS mb B Bo' w' qx gs' (gl ++ [stE next l c]) (stN next l c) vw (stL next l c) (wgT t (stE next l c)) (.slice none 0 0) [])∧KeptBut mb B w w':=by
 have qz:=h.lt
 have pA:B ≤ w.heap.size:=yN h.bo h.le
 have vO:=hg.len
 obtain ⟨a,A,rfl,vI,hc⟩:=zK h.orow (by omega)
 have HRD0:=Y (zK h.orow (by omega))
 have kT:=Y (fun (W:World) hW=>refusal_any next (.slice a l.length A) l c W hW (oRow_sl h.orow) hg h0 Q pM)
 have HK:=Y (@cN next l c)
 have HQ:=Y (@bY next l c)
 have qH:=Y (@ref_id next l c)
 have vl:Hid (stN next l c = if refR next l c = 0∧c.k = 1 then next + 1 else next):=rfl
 have vR:=Y (stL.eq_1 next l c)
 have vk:=Y (stE.eq_1 next l c)
 obtain ⟨kk,s,X,li,F,ii,pr,O⟩:=c
 generalize stN next l ⟨kk,s,X,li,F,ii,pr,O⟩ = sN at vl ⊢
 generalize stL next l ⟨kk,s,X,li,F,ii,pr,O⟩ = sL at vR ⊢
 generalize stE next l ⟨kk,s,X,li,F,ii,pr,O⟩ = sE at vk ⊢
 generalize refR next l ⟨kk,s,X,li,F,ii,pr,O⟩ = rr at kT vl vR vk HK HQ qH
 unfold cmV at kT ⊢
 simp only at kT vl vR vk HK HQ qH pM ⊢
 have xX:=ed w (E (yw kk s X li F ii pr O).toArray 27)
 have HE:=Y (zN h xX)
 have xW:=Y xX
 have xA:w.heap.size < (w.alloc (E (yw kk s X li F ii pr O).toArray 27)).heap.size:=by rw [ze]; omega
 have pV:Hid (World.rangeAt (w.alloc (E (yw kk s X li F ii pr O).toArray 27)) w.heap.size 0 (yw kk s X li F ii pr O)):=zg w (yw kk s X li F ii pr O) _
 have jF:Hid (World.there (w.alloc (E (yw kk s X li F ii pr O).toArray 27)) w.heap.size 0 8):=zu w (yw kk s X li F ii pr O) _
 have uB:Hid (∃ xr,(w.alloc (E (yw kk s X li F ii pr O).toArray 27)).heap[w.heap.size]? = some (.cells xr 27 (0,0))):=⟨_,heap_alloc_new w _⟩
 have jf:=Y (zl (U HRD0) xX tg)
 have HG:=Y hg
 have uG:Hid (0 ≤ next∧next ≤ 1000000):=⟨h0,Q⟩
 have qI:=Y pM
 clear h xX hc vI hg h0 Q HRD0 pM
 go_enter_defers Tryz.func14,Tryz.ntmps14
 refine ei fun hR xu=>?_
 go_wp2_with fail
 refine U xu _ _ ?_
 clear xu
 refine ei fun hR xu=>?_
 go_wp2_with fail
 refine U xu _ _ ?_
 clear xu
 generalize (w.alloc (E (yw kk s X li F ii pr O).toArray 27)) = ty at HE xW xA pV jF uB jf ⊢
 have qe:Hid (ty.cell? (J mb 1) = some (H next)):=(U HE).cells 1 _ rfl
 have vD:Hid (ty.cell? (J mb 2) = some (.slice a l.length A)):=(U HE).cells 2 _ rfl
 refine ei fun hR xu=>?_
 refine ei fun K2 kg=>?_
 refine zh (RG ty (fun f=>{ tmps:=#[I mb 0,.agg (yw kk s X li F ii pr O).toArray,M,yp w 0,f 7,M,M,M,M,I mb 0,f 0,f 1,f 2,f 3,f 4,f 5,f 6,M,M,M,M,M,M,M,M,M,M,M,M,M,M,M,M,M,M,M,M,M,M,M,M,M,M,M,M,M,M,M,M,M,M,M,M],defers:=[{ target:=.fn (.func 27) #[],args:=#[I mb 0] }] }) 99 (DVE [I mb 0,I mb 0,I mb 0,I mb 1,.agg #[H next,.slice a l.length A],.agg (yw kk s X li F ii pr O).toArray,H rr,H rr])) (by kernel_rfl) ?_ ?_ ?_
 ·exact ⟨fun _=>M,rfl,⟨rfl,rfl,rfl,Nat.le_refl _,fun _ _=>rfl⟩,fun j R=>by rw [yI] at R; split at R <;> simp at R⟩
 rotate_left
 ·rintro x xm V i op ⟨f,rfl,xk,hD⟩ xo hx Z xy D
  clear xo
  have xv:=Y xk
  have HD:=Y hD
  have xn:∀ (p:Addr) u,ty.cell? p = some u→V.cell? p = some u:=fun p u hu=>(xk.cell (yK ty _ hu)).trans hu
  have HRV:=Y (zl (U jf) xk tg)
  match i,Z with
  | 0,Z =>
   obtain rfl:=ya Z
   clear D hD xk xn
   rw [if_pos (by rfl)];unfold Oper.wp;go_simp
   exact ⟨upd f 0 (I mb 0),by simp [upd],zd (U xv) (U HD) (by decide) (yh rfl)⟩
  | 1,Z =>
   obtain rfl:=ya Z
   have g0:=hD 0 (ye D 0 rfl) _ rfl
   clear D hD xk xn
   rw [if_pos (by rfl)];unfold Oper.wp;go_simp
   exact ⟨upd f 1 (I mb 0),by simp [upd,g0],zd (U xv) (U HD) (by decide) (yh rfl)⟩
  | 2,Z =>
   obtain rfl:=ya Z
   have g1:=hD 1 (ye D 1 rfl) _ rfl
   clear D hD xk xn
   rw [if_pos (by rfl)];unfold Oper.wp;go_simp
   exact ⟨upd f 2 (I mb 0),by simp [upd,g1],zd (U xv) (U HD) (by decide) (yh rfl)⟩
  | 3,Z =>
   obtain rfl:=ya Z
   have g2:=hD 2 (ye D 2 rfl) _ rfl
   clear D hD xk xn
   rw [if_pos (by rfl)];unfold Oper.wp;go_simp
   exact ⟨upd f 3 (I mb 1),by simp [upd,g2],zd (U xv) (U HD) (by decide) (yh rfl)⟩
  | 4,Z =>
   obtain rfl:=ya Z
   have g3:=hD 3 (ye D 3 rfl) _ rfl
   have z1:=xn (J mb 1) _ (U qe)
   have z2:=xn (J mb 2) _ (U vD)
   clear D hD xk xn
   rw [if_pos (by rfl)];unfold Oper.wp;go_simp
   exact ⟨upd f 4 (.agg #[H next,.slice a l.length A]),by simp [upd,g3],zd (U xv) (U HD) (by decide) (yh rfl)⟩
  | 5,Z =>
   obtain rfl:=ya Z
   have y0:=xn (yq w 0) _ (U pV 0 _ rfl)
   have y1:=xn (yq w 1) _ (U pV 1 _ rfl)
   have y2:=xn (yq w 2) _ (U pV 2 _ rfl)
   have y3:=xn (yq w 3) _ (U pV 3 _ rfl)
   have y4:=xn (yq w 4) _ (U pV 4 _ rfl)
   have y5:=xn (yq w 5) _ (U pV 5 _ rfl)
   have y6:=xn (yq w 6) _ (U pV 6 _ rfl)
   have y7:=xn (yq w 7) _ (U pV 7 _ rfl)
   clear D hD xk xn
   rw [if_pos (by rfl)];unfold Oper.wp;go_simp
   exact ⟨upd f 5 (.agg (yw kk s X li F ii pr O).toArray),by simp [upd],zd (U xv) (U HD) (by decide) (yh rfl)⟩
  | 6,Z =>
   obtain rfl:=ya Z
   have g4:=hD 4 (ye D 4 rfl) _ rfl
   have g5:=hD 5 (ye D 5 rfl) _ rfl
   clear D hD xk xn
   rw [if_pos (by rfl)];unfold Oper.wp;go_simp
   refine (U kT V (U HRV)).mono ?_
   rintro e w4 ⟨rfl,xC⟩
   exact ⟨upd f 6 (H rr),by simp [upd,g4,g5],cS dvE_mono (U xv) (U HD) xC (by decide) (yh rfl)⟩
  | 7,Z =>
   obtain rfl:=ya Z
   have g6:=hD 6 (ye D 6 rfl) _ rfl
   clear D hD xk xn
   rw [if_pos (by rfl)];unfold Oper.wp;go_simp
   exact ⟨upd f 7 (H rr),by simp [upd,g6],zd (U xv) (U HD) (by decide) (yh rfl)⟩
  | i + 8,Z=>simp at Z
 ·rintro x xm V ⟨f,rfl,xk,hD⟩ hx xP
  have xp:=zP xP hx (by kernel_rfl)
  have e7:f 7 = H rr:=hD 7 (xp 7 (by simp)) _ rfl
  refine U kg _ _ ?_
  clear kg
  simp only [e7]
  generalize f 0 = v0,f 1 = v1,f 2 = v2,f 3 = v3,f 4 = v4,f 5 = v5,f 6 = v6
  have vJ:=Y (zN (U HE) xk)
  have HKV:Hid (KeptBut mb B w V):=zi (zz (U xW) pA) (zz xk (by omega))
  have kp:=Y (zb (U pV) xk xA)
  have qw:=Y (zf (U jF) xk xA)
  have xv:Hid (∃ xr,V.heap[w.heap.size]? = some (.cells xr 27 (0,0))):=by obtain ⟨xr,hc⟩:=U uB; exact ⟨xr,(xk.block _ xA).trans hc⟩
  have hsV:w.heap.size < V.heap.size:=yJ xA xk.size
  clear hD xp e7 xP hx xk qe vD jf HE pV jF uB kT xW xA
  obtain ⟨y0,y1,y2,y3,y4,y5,y6,y7⟩:=yD (U kp)
  by_cases vf:rr = 0
  ·subst vf
   have pF:=U HK rfl
   rcases pF with rfl | rfl | rfl | rfl
   ·have hq:=U HQ rfl rfl
    have uI:Hid (sN = next + 1∧sL = _∧sE = _):=⟨by rw [U vl,if_pos ⟨rfl,rfl⟩],by rw [U vR,if_pos rfl,if_pos rfl],by rw [U vk,if_pos rfl,if_pos rfl]⟩
    have HLE:Hid ((accE ⟨1,s,X,li,F,ii,pr,O⟩ next (matL ⟨1,s,X,li,F,ii,pr,O⟩ next 21 l F [])).length ≤ 1000):=by
     have Q:=dh (c:=⟨1,s,X,li,F,ii,pr,O⟩) (id:=next) 21 l F []
     show _ ≤ _
     simp only [accE,List.cons_append,List.length_cons,yP,List.length_nil] at Q ⊢
     split <;> simp <;> omega
    clear vl vR vk HQ qH HK
    go_wp2_with fail
    refine U xu _ _ ?_
    clear xu
    go_wp2_with fail
    refine (bU ⟨1,s,X,li,F,ii,pr,O⟩ V).mono ?_
    have jl:cmdI ⟨1,s,X,li,F,ii,pr,O⟩ = .iface 74 (.agg #[H s,H X,H li,H F,yj pr,yk O]):=by simp [cmdI,noV]
    rw [jl]
    clear jl
    rintro e w4 ⟨rfl,xC⟩
    have qj:=ed w4 (E #[H s,H X,H li,H F,yj pr,yk O] 74)
    have qd:=Y (zN (zN (U vJ) xC) qj)
    have kq:Hid (KeptBut mb B w (w4.alloc (E #[H s,H X,H li,H F,yj pr,yk O] 74))):=zi (zi (U HKV) (zz xC (by omega))) (zz qj (by have:=xC.size; omega))
    clear xC qj y0 y1 y2 y3 y4 y5 y6 y7
    have ta1:∀ W:World,Sem.run Tryz.prog (Instr.typeAssert (.iface 74 (.agg #[H s,H X,H li,H F,yj pr,yk O])) 71 74 true) W = .ok (.tuple #[.agg #[H s,H X,H li,H F,yj pr,yk O],.bool true]) W:=fun W=>by kernel_rfl
    have hsf:=sfl
    go_wp2_with fail
    generalize (w4.alloc (E #[H s,H X,H li,H F,yj pr,yk O] 74)) = yb at qd kq ⊢
    refine (acceptE_any ⟨1,s,X,li,F,ii,pr,O⟩ yb (U qd) (U HG) (U uG).1 (U uG).2 (show 0 ≤ F by omega) hq.2).mono ?_
    rintro e w6 ⟨rfl,⟨Bo6,vq6,vo6,kj⟩,kN⟩
    have qg:=Y kj
    have pZ:=Y (zi (U kq) kN)
    clear kj kN
    go_wp2_with fail
    refine leaves_cons (f:=27) (args:=#[I mb 0]) (by simp) (by simp [go_sem]) ?_
    refine (dp .returning w6 (U qg) (U HLE) (by omega)).mono ?_
    rintro e u' w' ⟨rfl,rfl,⟨qx,hE'⟩,kY⟩
    simp only [Leaves,settle,results,Tryz.results14,go_sem]
    simp
    obtain ⟨rfl,rfl,rfl⟩:=U uI
    exact ⟨⟨_,qx,_,_,hE'⟩,zi (U pZ) kY⟩
   ·obtain ⟨k,o,pI,jw⟩:=U qH rfl (by simp)
    have hob:=(U HG).left o (yO jw)
    have qS:(plc l ii).toNat = k:=by rw [pI]; rfl
    have uI:Hid (sN = next∧sL = az l k o o.left∧sE = [⟨6,zCm,ii,0,o.left,0,0⟩]):=⟨by rw [U vl,if_neg (fun h=>by have:=h.2; omega)],by rw [U vR,if_pos rfl,if_neg (by omega),if_pos rfl]; simp only [qS,jw],by rw [U vk,if_pos rfl,if_neg (by omega),if_pos rfl]; simp only [qS,jw]⟩
    have HLE:Hid (([] ++ [(⟨6,zCm,ii,0,o.left,0,0⟩:Ev)]).length ≤ 1000):=by show _ ≤ _; simp
    have HPK:=Y pI
    have HLO:=Y jw
    clear pI jw qS
    clear vl vR vk HQ qH HK
    go_wp2_with fail
    refine U xu _ _ ?_
    clear xu
    go_wp2_with fail
    refine (bU ⟨2,s,X,li,F,ii,pr,O⟩ V).mono ?_
    have jl:cmdI ⟨2,s,X,li,F,ii,pr,O⟩ = .iface 77 (.agg #[H ii]):=by simp [cmdI]
    rw [jl]
    clear jl
    rintro e w4 ⟨rfl,xC⟩
    have qj:=ed w4 (E #[H ii] 77)
    have qd:=Y (zN (zN (U vJ) xC) qj)
    have kq:Hid (KeptBut mb B w (w4.alloc (E #[H ii] 77))):=zi (zi (U HKV) (zz xC (by omega))) (zz qj (by have:=xC.size; omega))
    clear xC qj y0 y1 y2 y3 y4 y5 y6 y7
    have ta1:∀ W:World,Sem.run Tryz.prog (Instr.typeAssert (.iface 77 (.agg #[H ii])) 71 74 true) W = .ok (.tuple #[.agg #[H 0,H 0,H 0,H 0,yj 0,yk ⟨#[]⟩],.bool false]) W:=fun W=>by kernel_rfl
    have ta2:∀ W:World,Sem.run Tryz.prog (Instr.typeAssert (.iface 77 (.agg #[H ii])) 71 77 true) W = .ok (.tuple #[.agg #[H ii],.bool true]) W:=fun W=>by kernel_rfl
    have hsf:=sfl
    go_wp2_with fail
    generalize (w4.alloc (E #[H ii] 77)) = yb at qd kq ⊢
    refine (cancelE_any ii k o yb (U qd) (by omega) (by simp) (U HPK) (U HLO) (by omega) hob.2).mono ?_
    rintro e w6 ⟨rfl,⟨vq6,vo6,kj⟩,kN⟩
    have qg:=Y kj
    have pZ:=Y (zi (U kq) kN)
    clear kj kN
    go_wp2_with fail
    refine leaves_cons (f:=27) (args:=#[I mb 0]) (by simp) (by simp [go_sem]) ?_
    refine (dp .returning w6 (U qg) (U HLE) (by omega)).mono ?_
    rintro e u' w' ⟨rfl,rfl,⟨qx,hE'⟩,kY⟩
    simp only [Leaves,settle,results,Tryz.results14,go_sem]
    simp
    obtain ⟨rfl,rfl,rfl⟩:=U uI
    exact ⟨⟨_,qx,_,_,hE'⟩,zi (U pZ) kY⟩
   ·obtain ⟨k,o,pI,jw⟩:=U qH rfl (by simp)
    have hob:=(U HG).left o (yO jw)
    have qS:(plc l ii).toNat = k:=by rw [pI]; rfl
    have uI:Hid (sN = next∧sL = l.set k { o with left:=F }∧sE = [⟨7,zCm,ii,0,F,0,0⟩]):=⟨by rw [U vl,if_neg (fun h=>by have:=h.2; omega)],by rw [U vR,if_pos rfl,if_neg (by omega),if_neg (by omega),if_pos rfl]; simp only [qS,jw],by rw [U vk,if_pos rfl,if_neg (by omega),if_neg (by omega),if_pos rfl]⟩
    have HLE:Hid (([] ++ [(⟨7,zCm,ii,0,F,0,0⟩:Ev)]).length ≤ 1000):=by show _ ≤ _; simp
    have HPK:=Y pI
    have HLO:=Y jw
    clear pI jw qS
    clear vl vR vk HQ qH HK
    go_wp2_with fail
    refine U xu _ _ ?_
    clear xu
    go_wp2_with fail
    refine (bU ⟨3,s,X,li,F,ii,pr,O⟩ V).mono ?_
    have jl:cmdI ⟨3,s,X,li,F,ii,pr,O⟩ = .iface 80 (.agg #[H ii,H F]):=by simp [cmdI]
    rw [jl]
    clear jl
    rintro e w4 ⟨rfl,xC⟩
    have qj:=ed w4 (E #[H ii,H F] 80)
    have qd:=Y (zN (zN (U vJ) xC) qj)
    have kq:Hid (KeptBut mb B w (w4.alloc (E #[H ii,H F] 80))):=zi (zi (U HKV) (zz xC (by omega))) (zz qj (by have:=xC.size; omega))
    clear xC qj y0 y1 y2 y3 y4 y5 y6 y7
    have ta1:∀ W:World,Sem.run Tryz.prog (Instr.typeAssert (.iface 80 (.agg #[H ii,H F])) 71 74 true) W = .ok (.tuple #[.agg #[H 0,H 0,H 0,H 0,yj 0,yk ⟨#[]⟩],.bool false]) W:=fun W=>by kernel_rfl
    have ta2:∀ W:World,Sem.run Tryz.prog (Instr.typeAssert (.iface 80 (.agg #[H ii,H F])) 71 77 true) W = .ok (.tuple #[.agg #[H 0],.bool false]) W:=fun W=>by kernel_rfl
    have ta3:∀ W:World,Sem.run Tryz.prog (Instr.typeAssert (.iface 80 (.agg #[H ii,H F])) 71 80 true) W = .ok (.tuple #[.agg #[H ii,H F],.bool true]) W:=fun W=>by kernel_rfl
    have hsf:=sfl
    go_wp2_with fail
    generalize (w4.alloc (E #[H ii,H F] 80)) = yb at qd kq ⊢
    refine (reduceE_any ii F k o yb (U qd) (by omega) (by simp) (U HPK) (U HLO)).mono ?_
    rintro e w6 ⟨rfl,⟨vo6,kj⟩,kN⟩
    have qg:=Y kj
    have pZ:=Y (zi (U kq) kN)
    clear kj kN
    go_wp2_with fail
    refine leaves_cons (f:=27) (args:=#[I mb 0]) (by simp) (by simp [go_sem]) ?_
    refine (dp .returning w6 (U qg) (U HLE) (by omega)).mono ?_
    rintro e u' w' ⟨rfl,rfl,⟨qx,hE'⟩,kY⟩
    simp only [Leaves,settle,results,Tryz.results14,go_sem]
    simp
    obtain ⟨rfl,rfl,rfl⟩:=U uI
    exact ⟨⟨_,qx,_,_,hE'⟩,zi (U pZ) kY⟩
   ·have uI:Hid (sN = next∧sL = _∧sE = _):=⟨by rw [U vl,if_neg (fun h=>by have:=h.2; omega)],by rw [U vR,if_pos rfl,if_neg (by omega),if_neg (by omega),if_neg (by omega)],by rw [U vk,if_pos rfl,if_neg (by omega),if_neg (by omega),if_neg (by omega)]⟩
    have HLE:Hid (([] ++ [(⟨8,zCm,0,0,((l.filter dyB).length:Nat),0,0⟩:Ev)] ++ (l.filter dyB).map expE).length ≤ 1000):=by
     have Q:(l.filter dyB).length ≤ 20:=yN (List.length_filter_le _ _) vO
     show _ ≤ _
     simp only [List.nil_append,yP,List.length_cons,List.length_nil,List.length_map]; omega
    clear vl vR vk HQ qH HK
    go_wp2_with fail
    refine U xu _ _ ?_
    clear xu
    go_wp2_with fail
    refine (bU ⟨4,s,X,li,F,ii,pr,O⟩ V).mono ?_
    have jl:cmdI ⟨4,s,X,li,F,ii,pr,O⟩ = .iface 83 (.agg #[]):=by simp [cmdI]
    rw [jl]
    clear jl
    rintro e w4 ⟨rfl,xC⟩
    have qj:=ed w4 (E #[] 83)
    have qd:=Y (zN (zN (U vJ) xC) qj)
    have kq:Hid (KeptBut mb B w (w4.alloc (E #[] 83))):=zi (zi (U HKV) (zz xC (by omega))) (zz qj (by have:=xC.size; omega))
    clear xC qj y0 y1 y2 y3 y4 y5 y6 y7
    have ta1:∀ W:World,Sem.run Tryz.prog (Instr.typeAssert (.iface 83 (.agg #[])) 71 74 true) W = .ok (.tuple #[.agg #[H 0,H 0,H 0,H 0,yj 0,yk ⟨#[]⟩],.bool false]) W:=fun W=>by kernel_rfl
    have ta2:∀ W:World,Sem.run Tryz.prog (Instr.typeAssert (.iface 83 (.agg #[])) 71 77 true) W = .ok (.tuple #[.agg #[H 0],.bool false]) W:=fun W=>by kernel_rfl
    have ta3:∀ W:World,Sem.run Tryz.prog (Instr.typeAssert (.iface 83 (.agg #[])) 71 80 true) W = .ok (.tuple #[.agg #[H 0,H 0],.bool false]) W:=fun W=>by kernel_rfl
    have ta4:∀ W:World,Sem.run Tryz.prog (Instr.typeAssert (.iface 83 (.agg #[])) 71 83 true) W = .ok (.tuple #[.agg #[],.bool true]) W:=fun W=>by kernel_rfl
    have hsf:=sfl
    go_wp2_with fail
    generalize (w4.alloc (E #[] 83)) = yb at qd kq ⊢
    refine (endDayE_any yb (U qd) (by omega) (by simp)).mono ?_
    rintro e w6 ⟨rfl,⟨vq6,vo6,kj⟩,kN⟩
    have qg:=Y kj
    have pZ:=Y (zi (U kq) kN)
    clear kj kN
    go_wp2_with fail
    refine leaves_cons (f:=27) (args:=#[I mb 0]) (by simp) (by simp [go_sem]) ?_
    refine (dp .returning w6 (U qg) (U HLE) (by omega)).mono ?_
    rintro e u' w' ⟨rfl,rfl,⟨qx,hE'⟩,kY⟩
    simp only [Leaves,settle,results,Tryz.results14,go_sem]
    simp
    obtain ⟨rfl,rfl,rfl⟩:=U uI
    exact ⟨⟨_,qx,_,_,hE'⟩,zi (U pZ) kY⟩
  ·have qA:(rr == 0) = false:=by rw [xd]; exact vf
   have f7:V.frozen? (yq w 7) = false:=(U qw 7 (by omega)).2
   have uI:Hid (sN = next∧sL = l∧sE = [⟨2,⟨kk,s,X,li,F,ii,pr,cutB O⟩,0,0,0,0,rr⟩]):=⟨by rw [U vl,if_neg (fun h=>vf h.1)],by rw [U vR,if_neg vf],by rw [U vk,if_neg vf]⟩
   clear vf vl vR vk
   have HE9:=Y (ens_box (U vJ) (U xv) 7 (yk (cutB O)))
   have HK9:Hid (KeptBut mb B w (V.setCell (yq w 7) (yk (cutB O)))):=zi (U HKV) ⟨rfl,rfl,rfl,by simp [World.setCell],fun k hk _=>yS _ _ _ _ (show k ≠ w.heap.size by omega)⟩
   go_wp2_with fail
   refine (implCut_any O V (U qI)).mono ?_
   rintro e w' ⟨rfl,ul⟩
   rw [ul]
   clear ul w'
   go_wp2_with fail
   have HLE:Hid (([] ++ [⟨2,⟨kk,s,X,li,F,ii,pr,cutB O⟩,0,0,0,0,rr⟩]:List Ev).length ≤ 1000):=by show _ ≤ _; simp
   refine (bX ⟨2,⟨kk,s,X,li,F,ii,pr,cutB O⟩,0,0,0,0,rr⟩ _ (U HE9) (by simp)).mono ?_
   rintro e ph ⟨rfl,⟨vo10,hE10⟩,hk10,-⟩
   have HE10:=Y hE10
   have HK10:=Y (zi (U HK9) hk10)
   clear hE10 hk10 y0 y1 y2 y3 y4 y5 y6 y7 f7
   go_wp2_with fail
   refine leaves_cons (f:=27) (args:=#[I mb 0]) (by simp) (by simp [go_sem]) ?_
   refine (dp .returning ph (U HE10) (U HLE) (by omega)).mono ?_
   rintro e u' w' ⟨rfl,rfl,⟨qx,hE'⟩,kY⟩
   simp only [Leaves,settle,results,Tryz.results14,go_sem]
   simp
   obtain ⟨rfl,rfl,rfl⟩:=U uI
   exact ⟨⟨_,qx,_,_,hE'⟩,zi (U HK10) kY⟩
def tkS (x:Nat):Int:=if ((FloatKind.f64.format.order x 0 == some Ordering.gt) && ((FloatKind.f64.format.order x 4687829947429945344 == some Ordering.lt) || (FloatKind.f64.format.order x 4687829947429945344 == some Ordering.eq))) = true then tkN x else 0
theorem tkS_ok {x:Nat} (h:tkOk x = true):tkS x = tk x:=by
 unfold tk tkS
 rw [if_pos h]
 unfold tkOk at h
 rw [xe] at h
 rw [if_pos h.1]
theorem l01Ticks_any (x:Nat) (w:World) :
  Calls Tryz.prog 43 #[yj x] w fun e w'=>e = ym (.tuple #[H (tkS x),.bool (tkOk x)])∧w' = w:=by
 by_cases h0:FloatKind.f64.format.order x 0 = some Ordering.gt
 ·by_cases Q:FloatKind.f64.format.order x 4687829947429945344 = some Ordering.lt ∨ FloatKind.f64.format.order x 4687829947429945344 = some Ordering.eq
  ·obtain ⟨r,n,jx,pE,hn⟩:=price_four h0 Q
   have hn':(n:Int) < 9007199254740992:=by omega
   have eR:tkR x = r:=by unfold tkR; rw [show FloatKind.f64.format.mul x 4616189618054758400 = some r from jx]; rfl
   have eN:tkN x = n:=by unfold tkN; rw [eR,show (FloatKind.f64.decode r).toInt .zero = some (n:Int) from pE]; rfl
   have b0:(FloatKind.f64.format.order x 0 == some Ordering.gt) = true:=by rw [h0]; rfl
   have hm:∀ W,(binOp .mul 25 (yj x) (yj 4616189618054758400)).run Tryz.prog W = .ok (yj r) W:=fun W=>by
    have:FloatKind.f64.format.mul x 4616189618054758400 = some r:=jx
    simp [binOp,Op.floatArith,this]
   have hc:∀ W,(convert 25 3 (yj r)).run Tryz.prog W = .ok (H n) W:=fun W=>by
    have N:(FloatKind.f64.decode r).toInt .zero = some (n:Int):=pE
    have L:IntKind.i64.min ≤ (n:Int)∧(n:Int) ≤ IntKind.i64.max:=by
     rw [show IntKind.i64.min = -9223372036854775808 by decide,show IntKind.i64.max = 9223372036854775807 by decide]; omega
    simp [convert,run_underlying Tryz.underlying25,run_underlying Tryz.underlying3,Conv.floatToInt,N,L.1]
    intro h
    omega
   have qy:((FloatKind.f64.format.order x 4687829947429945344 == some Ordering.lt) || (FloatKind.f64.format.order x 4687829947429945344 == some Ordering.eq)) = true:=by
    rcases Q with Q | Q <;> rw [Q] <;> rfl
   have vH:tkOk x = (FloatKind.f64.format.order (floatOfInt .f64 n) r == some Ordering.eq):=by unfold tkOk; rw [eN,eR,b0,qy]; rfl
   have hS:tkS x = n:=by unfold tkS; rw [b0,qy,eN]; rfl
   clear jx pE h0 qy
   cases he:(FloatKind.f64.format.order (floatOfInt .f64 n) r == some Ordering.eq)
   all_goals
    have he2:(FloatKind.f64.format.order (floatOfInt .f64 n) r != some Ordering.eq) = !(FloatKind.f64.format.order (floatOfInt .f64 n) r == some Ordering.eq):=rfl
    rw [he] at he2
    rw [he] at vH
   ·have HT:Hid (tkS x = n∧tkOk x = false):=⟨hS,vH⟩
    clear vH eN eR hS
    rcases Q with Q | Q
    ·have b1:(FloatKind.f64.format.order x 4687829947429945344 == some Ordering.lt) = true:=by rw [Q]; rfl
     have b2:(FloatKind.f64.format.order x 4687829947429945344 == some Ordering.eq) = false:=by rw [Q]; rfl
     clear Q
     go_enter Tryz.func43,Tryz.ntmps43
     go_wp2
     go_ret2
     exact ⟨by rw [(U HT).1,(U HT).2]; rfl,rfl⟩
    ·have b1:(FloatKind.f64.format.order x 4687829947429945344 == some Ordering.lt) = false:=by rw [Q]; rfl
     have b2:(FloatKind.f64.format.order x 4687829947429945344 == some Ordering.eq) = true:=by rw [Q]; rfl
     clear Q
     go_enter Tryz.func43,Tryz.ntmps43
     go_wp2
     go_ret2
     exact ⟨by rw [(U HT).1,(U HT).2]; rfl,rfl⟩
   ·have HT:Hid (tkS x = n∧tkOk x = true):=⟨hS,vH⟩
    clear vH eN eR hS
    rcases Q with Q | Q
    ·have b1:(FloatKind.f64.format.order x 4687829947429945344 == some Ordering.lt) = true:=by rw [Q]; rfl
     have b2:(FloatKind.f64.format.order x 4687829947429945344 == some Ordering.eq) = false:=by rw [Q]; rfl
     clear Q
     go_enter Tryz.func43,Tryz.ntmps43
     go_wp2
     go_ret2
     exact ⟨by rw [(U HT).1,(U HT).2]; rfl,rfl⟩
    ·have b1:(FloatKind.f64.format.order x 4687829947429945344 == some Ordering.lt) = false:=by rw [Q]; rfl
     have b2:(FloatKind.f64.format.order x 4687829947429945344 == some Ordering.eq) = true:=by rw [Q]; rfl
     clear Q
     go_enter Tryz.func43,Tryz.ntmps43
     go_wp2
     go_ret2
     exact ⟨by rw [(U HT).1,(U HT).2]; rfl,rfl⟩
  ·have b0:(FloatKind.f64.format.order x 0 == some Ordering.gt) = true:=by rw [h0]; rfl
   have b1:(FloatKind.f64.format.order x 4687829947429945344 == some Ordering.lt) = false:=by rw [xd]; exact fun h=>Q (.inl h)
   have b2:(FloatKind.f64.format.order x 4687829947429945344 == some Ordering.eq) = false:=by rw [xd]; exact fun h=>Q (.inr h)
   have vH:tkOk x = false:=by unfold tkOk; rw [b0,b1,b2]; rfl
   have HT:Hid (tkS x = 0∧tkOk x = false):=⟨by unfold tkS; rw [b0,b1,b2]; rfl,vH⟩
   clear h0 Q vH
   go_enter Tryz.func43,Tryz.ntmps43
   go_wp2
   go_ret2
   exact ⟨by rw [(U HT).1,(U HT).2]; rfl,rfl⟩
 ·have b0:(FloatKind.f64.format.order x 0 == some Ordering.gt) = false:=by rw [xd]; exact h0
  have vH:tkOk x = false:=by unfold tkOk; rw [b0]; rfl
  have HT:Hid (tkS x = 0∧tkOk x = false):=⟨by unfold tkS; rw [b0]; rfl,vH⟩
  clear h0 vH
  go_enter Tryz.func43,Tryz.ntmps43
  go_wp2
  go_ret2
  exact ⟨by rw [(U HT).1,(U HT).2]; rfl,rfl⟩
end Go.Proofs.YtdliebbfcmdmaaaGreat
