/-
  A command done by the engine: proved by walking the method.
-/
import Derived.Test.YtbakanofkghmiaaGreatQj28
import Derived.Test.YtbakanofkghmiaaGreatQj29
set_option linter.unusedVariables false
set_option maxHeartbeats 6400000
set_option maxRecDepth 100000
namespace Go.Proofs.YtbakanofkghmiaaGreat
open Go.RowKit
def stN (next:Int) (l:List Od) (c:Cm):Int:=if refR next l c = 0∧c.k = 1 then next + 1 else next
def stL (next:Int) (l:List Od) (c:Cm):List Od :=
 if refR next l c = 0 then
  if c.k = 1 then accL c next (matL c next 21 l c.q [])
  else if c.k = 2 then (match l[(plc l c.i).toNat]? with | some o=>aM l (plc l c.i).toNat o o.left | none=>l)
  else if c.k = 3 then (match l[(plc l c.i).toNat]? with | some o=>l.set (plc l c.i).toNat { o with left:=c.q } | none=>l)
  else l.filter ndy
 else l
def stE (next:Int) (l:List Od) (c:Cm):List Ev :=
 if refR next l c = 0 then
  if c.k = 1 then accE c next (matL c next 21 l c.q [])
  else if c.k = 2 then (match l[(plc l c.i).toNat]? with | some o=>[⟨6,zCm,c.i,0,o.left,0,0⟩] | none=>[])
  else if c.k = 3 then [⟨7,zCm,c.i,0,c.q,0,0⟩]
  else ⟨8,zCm,0,0,((l.filter dyB).length:Nat),0,0⟩ :: (l.filter dyB).map expE
 else [⟨2,⟨c.k,c.s,c.t,c.l,c.q,c.i,c.p,cutB c.g⟩,0,0,0,0,refR next l c⟩]
theorem ens_box {mb B Bo bx:Nat} {W:World} {gv:Value} {gs:List Value} {gl:List (List Ev)} {next:Int} {vq:Value} {l:List Od} {t:Tot} {vo:Value} {ts:List Ev} (h:EnS mb B Bo W gv gs gl next vq l t vo ts) (X:∃ xu,W.heap[bx]? = some (.cells xu 43 (0,0))) (o:Nat) (u:Value):EnS mb B Bo (W.setCell (J bx o) u) gv gs gl next vq l t vo ts:=by
 have xB:bx ≠ mb:=by
  rintro rfl
  obtain ⟨c1,Q⟩:=X
  obtain ⟨c2,N⟩:=h.box
  rw [Q] at N
  simp at N
 refine ⟨fun j u' R=>(yM _ _ _ _ (fun e=>xB (congrArg Addr.block e))).trans (h.cells j u' R),zE h.there,zv h.grow (zl h.grow X (by decide)) _ _,h.glen,fun i g es hg uS=>zv (h.geach i g es hg uS) (zl (h.geach i g es hg uS) X (by decide)) _ _,h.glt,zv h.orow (zl h.orow X (by decide)) _ _,zv h.erow (zl h.erow X (by decide)) _ _,?_,h.bo,by simp only [World.setCell,Array.size_modify]; exact h.le⟩
 obtain ⟨c2,N⟩:=h.box
 exact ⟨c2,(yT _ _ _ _ (fun e=>xB e.symm)).trans N⟩
theorem cY {next:Int} {l:List Od} {c:Cm} (h:refR next l c = 0):c.k = 1 ∨ c.k = 2 ∨ c.k = 3 ∨ c.k = 4:=by
 rw [refR] at h
 split at h
 ·omega
 ·split at h
  ·omega
  ·split at h
   ·omega
   ·split at h
    ·omega
    ·cases h
theorem ref_new {next:Int} {l:List Od} {c:Cm} (h:refR next l c = 0) (hk:c.k = 1):newR next l c = 0:=by
 rw [refR,if_pos hk] at h
 split at h
 ·exact h
 ·cases h
theorem cC {next:Int} {l:List Od} {c:Cm} (h:refR next l c = 0) (hk:c.k = 1):1 ≤ c.q∧c.q ≤ 1000000:=by
 have h:=ref_new h hk
 rw [newR] at h
 repeat (split at h; (· cases h))
 rename_i h7 _
 simp [betB] at h7
 omega
theorem ref_id {next:Int} {l:List Od} {c:Cm} (h:refR next l c = 0) (hk:c.k = 2 ∨ c.k = 3):∃ (k:Nat) (o:Od),plc l c.i = k∧l[k]? = some o:=by
 rcases dt l c.i with Q | Q
 ·exfalso
  rw [refR] at h
  rcases hk with hk | hk
  ·rw [if_neg (by omega),if_pos hk] at h
   split at h
   ·simp [idR,Q] at h
   ·cases h
  ·rw [if_neg (by omega),if_neg (by omega),if_pos hk] at h
   split at h
   ·rw [redR] at h
    split at h
    ·simp [Q] at h
    ·cases h
   ·cases h
 ·exact Q
theorem doE_any {mb B Bo:Nat} {gv:Value} {gs:List Value} {gl:List (List Ev)} {next:Int} {vq:Value} {l:List Od} {t:Tot} (c:Cm) (w:World) (h:EnS mb B Bo w gv gs gl next vq l t (.slice none 0 0) []) (hg:GoodL l) (h0:0 ≤ next) (Q:next ≤ 1000000) (kQ:c.g.size ≤ maxLen) (hgn:gs.length ≤ 999) :
  Calls Tryz.prog 32 #[I mb 0,cmV c] w fun r w'=>r = ym (.tuple #[])∧(∃ Bo' qC gs' vu,EnS mb B Bo' w' qC gs' (gl ++ [stE next l c]) (stN next l c) vu (stL next l c) (wgT t (stE next l c)) (.slice none 0 0) [])∧KeptBut mb B w w':=by
 have qE:=h.lt
 have pF:B ≤ w.heap.size:=yO h.bo h.le
 have vN:=hg.len
 obtain ⟨a,A,rfl,vE,hc⟩:=zN h.orow (by omega)
 have HRD0:=Y (zN h.orow (by omega))
 have oF:=Y (fun (W:World) hW=>refusal_any next (.slice a l.length A) l c W hW (oRow_sl h.orow) hg h0 Q kQ)
 have HK:=Y (@cY next l c)
 have HQ:=Y (@cC next l c)
 have qM:=Y (@ref_id next l c)
 have vk:Hid (stN next l c = if refR next l c = 0∧c.k = 1 then next + 1 else next):=rfl
 have vP:=Y (stL.eq_1 next l c)
 have vj:=Y (stE.eq_1 next l c)
 obtain ⟨kk,s,F,li,L,ii,pr,O⟩:=c
 generalize stN next l ⟨kk,s,F,li,L,ii,pr,O⟩ = sN at vk ⊢
 generalize stL next l ⟨kk,s,F,li,L,ii,pr,O⟩ = sL at vP ⊢
 generalize stE next l ⟨kk,s,F,li,L,ii,pr,O⟩ = sE at vj ⊢
 generalize refR next l ⟨kk,s,F,li,L,ii,pr,O⟩ = rr at oF vk vP vj HK HQ qM
 unfold cmV at oF ⊢
 simp only at oF vk vP vj HK HQ qM kQ ⊢
 have xV:=eE w (E (yx kk s F li L ii pr O).toArray 43)
 have HE:=Y (zP h xV)
 have xU:=Y xV
 have xC:w.heap.size < (w.alloc (E (yx kk s F li L ii pr O).toArray 43)).heap.size:=by rw [zh]; omega
 have af:Hid (World.rangeAt (w.alloc (E (yx kk s F li L ii pr O).toArray 43)) w.heap.size 0 (yx kk s F li L ii pr O)):=zi w (yx kk s F li L ii pr O) _
 have jF:Hid (World.there (w.alloc (E (yx kk s F li L ii pr O).toArray 43)) w.heap.size 0 8):=zw w (yx kk s F li L ii pr O) _
 have uA:Hid (∃ xu,(w.alloc (E (yx kk s F li L ii pr O).toArray 43)).heap[w.heap.size]? = some (.cells xu 43 (0,0))):=⟨_,heap_alloc_new w _⟩
 have ji:=Y (zn (U HRD0) xV tg)
 have HG:=Y hg
 have uH:Hid (0 ≤ next∧next ≤ 1000000):=⟨h0,Q⟩
 have qn:=Y kQ
 clear h xV hc vE hg h0 Q HRD0 kQ
 go_enter_defers Tryz.func32,Tryz.ntmps32
 refine eI fun hR xv=>?_
 go_wp2_with fail
 refine U xv _ _ ?_
 clear xv
 refine eI fun hR xv=>?_
 go_wp2_with fail
 refine U xv _ _ ?_
 clear xv
 generalize (w.alloc (E (yx kk s F li L ii pr O).toArray 43)) = hb at HE xU xC af jF uA ji ⊢
 have qd:Hid (hb.cell? (J mb 1) = some (H next)):=(U HE).cells 1 _ rfl
 have vC:Hid (hb.cell? (J mb 2) = some (.slice a l.length A)):=(U HE).cells 2 _ rfl
 refine eI fun hR xv=>?_
 refine eI fun K2 kg=>?_
 refine zj (RG hb (fun f=>{ tmps:=#[I mb 0,.agg (yx kk s F li L ii pr O).toArray,M,yp w 0,f 7,M,M,M,M,I mb 0,f 0,f 1,f 2,f 3,f 4,f 5,f 6,M,M,M,M,M,M,M,M,M,M,M,M,M,M,M,M,M,M,M,M,M,M,M,M,M,M,M,M,M,M,M,M,M,M,M,M],defers:=[{ target:=.fn (.func 62) #[],args:=#[I mb 0] }] }) 99 (DVE [I mb 0,I mb 0,I mb 0,I mb 1,.agg #[H next,.slice a l.length A],.agg (yx kk s F li L ii pr O).toArray,H rr,H rr])) (by kernel_rfl) ?_ ?_ ?_
 ·exact ⟨fun _=>M,rfl,⟨rfl,rfl,rfl,Nat.le_refl _,fun _ _=>rfl⟩,fun j R=>by rw [yJ] at R; split at R <;> simp at R⟩
 rotate_left
 ·rintro x xn V i op ⟨f,rfl,xm,hD⟩ xp hx Z xz D
  clear xp
  have xw:=Y xm
  have HD:=Y hD
  have xo:∀ (p:Addr) u,hb.cell? p = some u→V.cell? p = some u:=fun p u hu=>(xm.cell (yL hb _ hu)).trans hu
  have HRV:=Y (zn (U ji) xm tg)
  match i,Z with
  | 0,Z =>
   obtain rfl:=ya Z
   clear D hD xm xo
   rw [if_pos (by rfl)];unfold Oper.wp;go_simp
   exact ⟨upd f 0 (I mb 0),by simp [upd],zf (U xw) (U HD) (by decide) (yh rfl)⟩
  | 1,Z =>
   obtain rfl:=ya Z
   have g0:=hD 0 (ye D 0 rfl) _ rfl
   clear D hD xm xo
   rw [if_pos (by rfl)];unfold Oper.wp;go_simp
   exact ⟨upd f 1 (I mb 0),by simp [upd,g0],zf (U xw) (U HD) (by decide) (yh rfl)⟩
  | 2,Z =>
   obtain rfl:=ya Z
   have g1:=hD 1 (ye D 1 rfl) _ rfl
   clear D hD xm xo
   rw [if_pos (by rfl)];unfold Oper.wp;go_simp
   exact ⟨upd f 2 (I mb 0),by simp [upd,g1],zf (U xw) (U HD) (by decide) (yh rfl)⟩
  | 3,Z =>
   obtain rfl:=ya Z
   have g2:=hD 2 (ye D 2 rfl) _ rfl
   clear D hD xm xo
   rw [if_pos (by rfl)];unfold Oper.wp;go_simp
   exact ⟨upd f 3 (I mb 1),by simp [upd,g2],zf (U xw) (U HD) (by decide) (yh rfl)⟩
  | 4,Z =>
   obtain rfl:=ya Z
   have g3:=hD 3 (ye D 3 rfl) _ rfl
   have z1:=xo (J mb 1) _ (U qd)
   have z2:=xo (J mb 2) _ (U vC)
   clear D hD xm xo
   rw [if_pos (by rfl)];unfold Oper.wp;go_simp
   exact ⟨upd f 4 (.agg #[H next,.slice a l.length A]),by simp [upd,g3],zf (U xw) (U HD) (by decide) (yh rfl)⟩
  | 5,Z =>
   obtain rfl:=ya Z
   have y0:=xo (yq w 0) _ (U af 0 _ rfl)
   have y1:=xo (yq w 1) _ (U af 1 _ rfl)
   have y2:=xo (yq w 2) _ (U af 2 _ rfl)
   have y3:=xo (yq w 3) _ (U af 3 _ rfl)
   have y4:=xo (yq w 4) _ (U af 4 _ rfl)
   have y5:=xo (yq w 5) _ (U af 5 _ rfl)
   have y6:=xo (yq w 6) _ (U af 6 _ rfl)
   have y7:=xo (yq w 7) _ (U af 7 _ rfl)
   clear D hD xm xo
   rw [if_pos (by rfl)];unfold Oper.wp;go_simp
   exact ⟨upd f 5 (.agg (yx kk s F li L ii pr O).toArray),by simp [upd],zf (U xw) (U HD) (by decide) (yh rfl)⟩
  | 6,Z =>
   obtain rfl:=ya Z
   have g4:=hD 4 (ye D 4 rfl) _ rfl
   have g5:=hD 5 (ye D 5 rfl) _ rfl
   clear D hD xm xo
   rw [if_pos (by rfl)];unfold Oper.wp;go_simp
   refine (U oF V (U HRV)).mono ?_
   rintro e w4 ⟨rfl,xD⟩
   exact ⟨upd f 6 (H rr),by simp [upd,g4,g5],df dvE_mono (U xw) (U HD) xD (by decide) (yh rfl)⟩
  | 7,Z =>
   obtain rfl:=ya Z
   have g6:=hD 6 (ye D 6 rfl) _ rfl
   clear D hD xm xo
   rw [if_pos (by rfl)];unfold Oper.wp;go_simp
   exact ⟨upd f 7 (H rr),by simp [upd,g6],zf (U xw) (U HD) (by decide) (yh rfl)⟩
  | i + 8,Z=>simp at Z
 ·rintro x xn V ⟨f,rfl,xm,hD⟩ hx xN
  have xq:=zR xN hx (by kernel_rfl)
  have e7:f 7 = H rr:=hD 7 (xq 7 (by simp)) _ rfl
  refine U kg _ _ ?_
  clear kg
  simp only [e7]
  generalize f 0 = v0,f 1 = v1,f 2 = v2,f 3 = v3,f 4 = v4,f 5 = v5,f 6 = v6
  have vH:=Y (zP (U HE) xm)
  have HKV:Hid (KeptBut mb B w V):=zk (zC (U xU) pF) (zC xm (by omega))
  have kp:=Y (zb (U af) xm xC)
  have qB:=Y (zg (U jF) xm xC)
  have xw:Hid (∃ xu,V.heap[w.heap.size]? = some (.cells xu 43 (0,0))):=by obtain ⟨xu,hc⟩:=U uA; exact ⟨xu,(xm.block _ xC).trans hc⟩
  have hsV:w.heap.size < V.heap.size:=yK xC xm.size
  clear hD xq e7 xN hx xm qd vC ji HE af jF uA oF xU xC
  obtain ⟨y0,y1,y2,y3,y4,y5,y6,y7⟩:=yE (U kp)
  by_cases vi:rr = 0
  ·subst vi
   have pK:=U HK rfl
   rcases pK with rfl | rfl | rfl | rfl
   ·have hq:=U HQ rfl rfl
    have uK:Hid (sN = next + 1∧sL = _∧sE = _):=⟨by rw [U vk,if_pos ⟨rfl,rfl⟩],by rw [U vP,if_pos rfl,if_pos rfl],by rw [U vj,if_pos rfl,if_pos rfl]⟩
    have HLE:Hid ((accE ⟨1,s,F,li,L,ii,pr,O⟩ next (matL ⟨1,s,F,li,L,ii,pr,O⟩ next 21 l L [])).length ≤ 1000):=by
     have Q:=dw (c:=⟨1,s,F,li,L,ii,pr,O⟩) (id:=next) 21 l L []
     show _ ≤ _
     simp only [accE,List.cons_append,List.length_cons,yQ,List.length_nil] at Q ⊢
     split <;> simp <;> omega
    clear vk vP vj HQ qM HK
    go_wp2_with fail
    refine U xv _ _ ?_
    clear xv
    go_wp2_with fail
    refine (cz ⟨1,s,F,li,L,ii,pr,O⟩ V).mono ?_
    have jo:cmdI ⟨1,s,F,li,L,ii,pr,O⟩ = .iface 112 (.agg #[H s,H F,H li,H L,yj pr,yk O]):=by simp [cmdI,noV]
    rw [jo]
    clear jo
    rintro e w4 ⟨rfl,xD⟩
    have vG:=eE w4 (E #[H s,H F,H li,H L,yj pr,yk O] 112)
    have qc:=Y (zP (zP (U vH) xD) vG)
    have kq:Hid (KeptBut mb B w (w4.alloc (E #[H s,H F,H li,H L,yj pr,yk O] 112))):=zk (zk (U HKV) (zC xD (by omega))) (zC vG (by have:=xD.size; omega))
    clear xD vG y0 y1 y2 y3 y4 y5 y6 y7
    have ta1:∀ W:World,Sem.run Tryz.prog (Instr.typeAssert (.iface 112 (.agg #[H s,H F,H li,H L,yj pr,yk O])) 109 112 true) W = .ok (.tuple #[.agg #[H s,H F,H li,H L,yj pr,yk O],.bool true]) W:=fun W=>by kernel_rfl
    have hsf:=sfl
    go_wp2_with fail
    generalize (w4.alloc (E #[H s,H F,H li,H L,yj pr,yk O] 112)) = yb at qc kq ⊢
    refine (acceptE_any ⟨1,s,F,li,L,ii,pr,O⟩ yb (U qc) (U HG) (U uH).1 (U uH).2 (show 0 ≤ L by omega) hq.2).mono ?_
    rintro e w6 ⟨rfl,⟨Bo6,vq6,vo6,kj⟩,kM⟩
    have qg:=Y kj
    have au:=Y (zk (U kq) kM)
    clear kj kM
    go_wp2_with fail
    refine leaves_cons (f:=62) (args:=#[I mb 0]) (by simp) (by simp [go_sem]) ?_
    refine (dK .returning w6 (U qg) (U HLE) (by omega)).mono ?_
    rintro e u' w' ⟨rfl,rfl,⟨qC,hE'⟩,kX⟩
    simp only [Leaves,settle,results,Tryz.results32,go_sem]
    simp
    obtain ⟨rfl,rfl,rfl⟩:=U uK
    exact ⟨⟨_,qC,_,_,hE'⟩,zk (U au) kX⟩
   ·obtain ⟨k,o,pO,jx⟩:=U qM rfl (by simp)
    have hob:=(U HG).left o (yP jx)
    have qV:(plc l ii).toNat = k:=by rw [pO]; rfl
    have uK:Hid (sN = next∧sL = aM l k o o.left∧sE = [⟨6,zCm,ii,0,o.left,0,0⟩]):=⟨by rw [U vk,if_neg (fun h=>by have:=h.2; omega)],by rw [U vP,if_pos rfl,if_neg (by omega),if_pos rfl]; simp only [qV,jx],by rw [U vj,if_pos rfl,if_neg (by omega),if_pos rfl]; simp only [qV,jx]⟩
    have HLE:Hid (([] ++ [(⟨6,zCm,ii,0,o.left,0,0⟩:Ev)]).length ≤ 1000):=by show _ ≤ _; simp
    have HPK:=Y pO
    have HLO:=Y jx
    clear pO jx qV
    clear vk vP vj HQ qM HK
    go_wp2_with fail
    refine U xv _ _ ?_
    clear xv
    go_wp2_with fail
    refine (cz ⟨2,s,F,li,L,ii,pr,O⟩ V).mono ?_
    have jo:cmdI ⟨2,s,F,li,L,ii,pr,O⟩ = .iface 115 (.agg #[H ii]):=by simp [cmdI]
    rw [jo]
    clear jo
    rintro e w4 ⟨rfl,xD⟩
    have vG:=eE w4 (E #[H ii] 115)
    have qc:=Y (zP (zP (U vH) xD) vG)
    have kq:Hid (KeptBut mb B w (w4.alloc (E #[H ii] 115))):=zk (zk (U HKV) (zC xD (by omega))) (zC vG (by have:=xD.size; omega))
    clear xD vG y0 y1 y2 y3 y4 y5 y6 y7
    have ta1:∀ W:World,Sem.run Tryz.prog (Instr.typeAssert (.iface 115 (.agg #[H ii])) 109 112 true) W = .ok (.tuple #[.agg #[H 0,H 0,H 0,H 0,yj 0,yk ⟨#[]⟩],.bool false]) W:=fun W=>by kernel_rfl
    have ta2:∀ W:World,Sem.run Tryz.prog (Instr.typeAssert (.iface 115 (.agg #[H ii])) 109 115 true) W = .ok (.tuple #[.agg #[H ii],.bool true]) W:=fun W=>by kernel_rfl
    have hsf:=sfl
    go_wp2_with fail
    generalize (w4.alloc (E #[H ii] 115)) = yb at qc kq ⊢
    refine (cancelE_any ii k o yb (U qc) (by omega) (by simp) (U HPK) (U HLO) (by omega) hob.2).mono ?_
    rintro e w6 ⟨rfl,⟨vq6,vo6,kj⟩,kM⟩
    have qg:=Y kj
    have au:=Y (zk (U kq) kM)
    clear kj kM
    go_wp2_with fail
    refine leaves_cons (f:=62) (args:=#[I mb 0]) (by simp) (by simp [go_sem]) ?_
    refine (dK .returning w6 (U qg) (U HLE) (by omega)).mono ?_
    rintro e u' w' ⟨rfl,rfl,⟨qC,hE'⟩,kX⟩
    simp only [Leaves,settle,results,Tryz.results32,go_sem]
    simp
    obtain ⟨rfl,rfl,rfl⟩:=U uK
    exact ⟨⟨_,qC,_,_,hE'⟩,zk (U au) kX⟩
   ·obtain ⟨k,o,pO,jx⟩:=U qM rfl (by simp)
    have hob:=(U HG).left o (yP jx)
    have qV:(plc l ii).toNat = k:=by rw [pO]; rfl
    have uK:Hid (sN = next∧sL = l.set k { o with left:=L }∧sE = [⟨7,zCm,ii,0,L,0,0⟩]):=⟨by rw [U vk,if_neg (fun h=>by have:=h.2; omega)],by rw [U vP,if_pos rfl,if_neg (by omega),if_neg (by omega),if_pos rfl]; simp only [qV,jx],by rw [U vj,if_pos rfl,if_neg (by omega),if_neg (by omega),if_pos rfl]⟩
    have HLE:Hid (([] ++ [(⟨7,zCm,ii,0,L,0,0⟩:Ev)]).length ≤ 1000):=by show _ ≤ _; simp
    have HPK:=Y pO
    have HLO:=Y jx
    clear pO jx qV
    clear vk vP vj HQ qM HK
    go_wp2_with fail
    refine U xv _ _ ?_
    clear xv
    go_wp2_with fail
    refine (cz ⟨3,s,F,li,L,ii,pr,O⟩ V).mono ?_
    have jo:cmdI ⟨3,s,F,li,L,ii,pr,O⟩ = .iface 118 (.agg #[H ii,H L]):=by simp [cmdI]
    rw [jo]
    clear jo
    rintro e w4 ⟨rfl,xD⟩
    have vG:=eE w4 (E #[H ii,H L] 118)
    have qc:=Y (zP (zP (U vH) xD) vG)
    have kq:Hid (KeptBut mb B w (w4.alloc (E #[H ii,H L] 118))):=zk (zk (U HKV) (zC xD (by omega))) (zC vG (by have:=xD.size; omega))
    clear xD vG y0 y1 y2 y3 y4 y5 y6 y7
    have ta1:∀ W:World,Sem.run Tryz.prog (Instr.typeAssert (.iface 118 (.agg #[H ii,H L])) 109 112 true) W = .ok (.tuple #[.agg #[H 0,H 0,H 0,H 0,yj 0,yk ⟨#[]⟩],.bool false]) W:=fun W=>by kernel_rfl
    have ta2:∀ W:World,Sem.run Tryz.prog (Instr.typeAssert (.iface 118 (.agg #[H ii,H L])) 109 115 true) W = .ok (.tuple #[.agg #[H 0],.bool false]) W:=fun W=>by kernel_rfl
    have ta3:∀ W:World,Sem.run Tryz.prog (Instr.typeAssert (.iface 118 (.agg #[H ii,H L])) 109 118 true) W = .ok (.tuple #[.agg #[H ii,H L],.bool true]) W:=fun W=>by kernel_rfl
    have hsf:=sfl
    go_wp2_with fail
    generalize (w4.alloc (E #[H ii,H L] 118)) = yb at qc kq ⊢
    refine (reduceE_any ii L k o yb (U qc) (by omega) (by simp) (U HPK) (U HLO)).mono ?_
    rintro e w6 ⟨rfl,⟨vo6,kj⟩,kM⟩
    have qg:=Y kj
    have au:=Y (zk (U kq) kM)
    clear kj kM
    go_wp2_with fail
    refine leaves_cons (f:=62) (args:=#[I mb 0]) (by simp) (by simp [go_sem]) ?_
    refine (dK .returning w6 (U qg) (U HLE) (by omega)).mono ?_
    rintro e u' w' ⟨rfl,rfl,⟨qC,hE'⟩,kX⟩
    simp only [Leaves,settle,results,Tryz.results32,go_sem]
    simp
    obtain ⟨rfl,rfl,rfl⟩:=U uK
    exact ⟨⟨_,qC,_,_,hE'⟩,zk (U au) kX⟩
   ·have uK:Hid (sN = next∧sL = _∧sE = _):=⟨by rw [U vk,if_neg (fun h=>by have:=h.2; omega)],by rw [U vP,if_pos rfl,if_neg (by omega),if_neg (by omega),if_neg (by omega)],by rw [U vj,if_pos rfl,if_neg (by omega),if_neg (by omega),if_neg (by omega)]⟩
    have HLE:Hid (([] ++ [(⟨8,zCm,0,0,((l.filter dyB).length:Nat),0,0⟩:Ev)] ++ (l.filter dyB).map expE).length ≤ 1000):=by
     have Q:(l.filter dyB).length ≤ 20:=yO (List.length_filter_le _ _) vN
     show _ ≤ _
     simp only [List.nil_append,yQ,List.length_cons,List.length_nil,List.length_map]; omega
    clear vk vP vj HQ qM HK
    go_wp2_with fail
    refine U xv _ _ ?_
    clear xv
    go_wp2_with fail
    refine (cz ⟨4,s,F,li,L,ii,pr,O⟩ V).mono ?_
    have jo:cmdI ⟨4,s,F,li,L,ii,pr,O⟩ = .iface 121 (.agg #[]):=by simp [cmdI]
    rw [jo]
    clear jo
    rintro e w4 ⟨rfl,xD⟩
    have vG:=eE w4 (E #[] 121)
    have qc:=Y (zP (zP (U vH) xD) vG)
    have kq:Hid (KeptBut mb B w (w4.alloc (E #[] 121))):=zk (zk (U HKV) (zC xD (by omega))) (zC vG (by have:=xD.size; omega))
    clear xD vG y0 y1 y2 y3 y4 y5 y6 y7
    have ta1:∀ W:World,Sem.run Tryz.prog (Instr.typeAssert (.iface 121 (.agg #[])) 109 112 true) W = .ok (.tuple #[.agg #[H 0,H 0,H 0,H 0,yj 0,yk ⟨#[]⟩],.bool false]) W:=fun W=>by kernel_rfl
    have ta2:∀ W:World,Sem.run Tryz.prog (Instr.typeAssert (.iface 121 (.agg #[])) 109 115 true) W = .ok (.tuple #[.agg #[H 0],.bool false]) W:=fun W=>by kernel_rfl
    have ta3:∀ W:World,Sem.run Tryz.prog (Instr.typeAssert (.iface 121 (.agg #[])) 109 118 true) W = .ok (.tuple #[.agg #[H 0,H 0],.bool false]) W:=fun W=>by kernel_rfl
    have ta4:∀ W:World,Sem.run Tryz.prog (Instr.typeAssert (.iface 121 (.agg #[])) 109 121 true) W = .ok (.tuple #[.agg #[],.bool true]) W:=fun W=>by kernel_rfl
    have hsf:=sfl
    go_wp2_with fail
    generalize (w4.alloc (E #[] 121)) = yb at qc kq ⊢
    refine (endDayE_any yb (U qc) (by omega) (by simp)).mono ?_
    rintro e w6 ⟨rfl,⟨vq6,vo6,kj⟩,kM⟩
    have qg:=Y kj
    have au:=Y (zk (U kq) kM)
    clear kj kM
    go_wp2_with fail
    refine leaves_cons (f:=62) (args:=#[I mb 0]) (by simp) (by simp [go_sem]) ?_
    refine (dK .returning w6 (U qg) (U HLE) (by omega)).mono ?_
    rintro e u' w' ⟨rfl,rfl,⟨qC,hE'⟩,kX⟩
    simp only [Leaves,settle,results,Tryz.results32,go_sem]
    simp
    obtain ⟨rfl,rfl,rfl⟩:=U uK
    exact ⟨⟨_,qC,_,_,hE'⟩,zk (U au) kX⟩
  ·have qK:(rr == 0) = false:=by rw [xe]; exact vi
   have f7:V.frozen? (yq w 7) = false:=(U qB 7 (by omega)).2
   have uK:Hid (sN = next∧sL = l∧sE = [⟨2,⟨kk,s,F,li,L,ii,pr,cutB O⟩,0,0,0,0,rr⟩]):=⟨by rw [U vk,if_neg (fun h=>vi h.1)],by rw [U vP,if_neg vi],by rw [U vj,if_neg vi]⟩
   clear vi vk vP vj
   have HE9:=Y (ens_box (U vH) (U xw) 7 (yk (cutB O)))
   have HK9:Hid (KeptBut mb B w (V.setCell (yq w 7) (yk (cutB O)))):=zk (U HKV) ⟨rfl,rfl,rfl,by simp [World.setCell],fun k hk _=>yT _ _ _ _ (show k ≠ w.heap.size by omega)⟩
   go_wp2_with fail
   refine (implCut_any O V (U qn)).mono ?_
   rintro e w' ⟨rfl,un⟩
   rw [un]
   clear un w'
   go_wp2_with fail
   have HLE:Hid (([] ++ [⟨2,⟨kk,s,F,li,L,ii,pr,cutB O⟩,0,0,0,0,rr⟩]:List Ev).length ≤ 1000):=by show _ ≤ _; simp
   refine (cB ⟨2,⟨kk,s,F,li,L,ii,pr,cutB O⟩,0,0,0,0,rr⟩ _ (U HE9) (by simp)).mono ?_
   rintro e po ⟨rfl,⟨vo10,hE10⟩,hk10,-⟩
   have HE10:=Y hE10
   have HK10:=Y (zk (U HK9) hk10)
   clear hE10 hk10 y0 y1 y2 y3 y4 y5 y6 y7 f7
   go_wp2_with fail
   refine leaves_cons (f:=62) (args:=#[I mb 0]) (by simp) (by simp [go_sem]) ?_
   refine (dK .returning po (U HE10) (U HLE) (by omega)).mono ?_
   rintro e u' w' ⟨rfl,rfl,⟨qC,hE'⟩,kX⟩
   simp only [Leaves,settle,results,Tryz.results32,go_sem]
   simp
   obtain ⟨rfl,rfl,rfl⟩:=U uK
   exact ⟨⟨_,qC,_,_,hE'⟩,zk (U HK10) kX⟩
def tkS (x:Nat):Int:=if ((FloatKind.f64.format.order x 0 == some Ordering.gt) && ((FloatKind.f64.format.order x 4687829947429945344 == some Ordering.lt) || (FloatKind.f64.format.order x 4687829947429945344 == some Ordering.eq))) = true then tkN x else 0
theorem tkS_ok {x:Nat} (h:tkOk x = true):tkS x = tk x:=by
 unfold tk tkS
 rw [if_pos h]
 unfold tkOk at h
 rw [xh] at h
 rw [if_pos h.1]
theorem l01Ticks_any (x:Nat) (w:World) :
  Calls Tryz.prog 137 #[yj x] w fun e w'=>e = ym (.tuple #[H (tkS x),.bool (tkOk x)])∧w' = w:=by
 by_cases h0:FloatKind.f64.format.order x 0 = some Ordering.gt
 ·by_cases Q:FloatKind.f64.format.order x 4687829947429945344 = some Ordering.lt ∨ FloatKind.f64.format.order x 4687829947429945344 = some Ordering.eq
  ·obtain ⟨r,n,jy,pJ,hn⟩:=price_four h0 Q
   have hn':(n:Int) < 9007199254740992:=by omega
   have eR:tkR x = r:=by unfold tkR; rw [show FloatKind.f64.format.mul x 4616189618054758400 = some r from jy]; rfl
   have eN:tkN x = n:=by unfold tkN; rw [eR,show (FloatKind.f64.decode r).toInt .zero = some (n:Int) from pJ]; rfl
   have b0:(FloatKind.f64.format.order x 0 == some Ordering.gt) = true:=by rw [h0]; rfl
   have hm:∀ W,(binOp .mul 41 (yj x) (yj 4616189618054758400)).run Tryz.prog W = .ok (yj r) W:=fun W=>by
    have:FloatKind.f64.format.mul x 4616189618054758400 = some r:=jy
    simp [binOp,Op.floatArith,this]
   have hc:∀ W,(convert 41 3 (yj r)).run Tryz.prog W = .ok (H n) W:=fun W=>by
    have N:(FloatKind.f64.decode r).toInt .zero = some (n:Int):=pJ
    have X:IntKind.i64.min ≤ (n:Int)∧(n:Int) ≤ IntKind.i64.max:=by
     rw [show IntKind.i64.min = -9223372036854775808 by decide,show IntKind.i64.max = 9223372036854775807 by decide]; omega
    simp [convert,run_underlying Tryz.underlying41,run_underlying Tryz.underlying3,Conv.floatToInt,N,X.1]
    intro h
    omega
   have qD:((FloatKind.f64.format.order x 4687829947429945344 == some Ordering.lt) || (FloatKind.f64.format.order x 4687829947429945344 == some Ordering.eq)) = true:=by
    rcases Q with Q | Q <;> rw [Q] <;> rfl
   have qa:tkOk x = (FloatKind.f64.format.order (floatOfInt .f64 n) r == some Ordering.eq):=by unfold tkOk; rw [eN,eR,b0,qD]; rfl
   have hS:tkS x = n:=by unfold tkS; rw [b0,qD,eN]; rfl
   clear jy pJ h0 qD
   cases he:(FloatKind.f64.format.order (floatOfInt .f64 n) r == some Ordering.eq)
   all_goals
    have he2:(FloatKind.f64.format.order (floatOfInt .f64 n) r != some Ordering.eq) = !(FloatKind.f64.format.order (floatOfInt .f64 n) r == some Ordering.eq):=rfl
    rw [he] at he2
    rw [he] at qa
   ·have HT:Hid (tkS x = n∧tkOk x = false):=⟨hS,qa⟩
    clear qa eN eR hS
    rcases Q with Q | Q
    ·have b1:(FloatKind.f64.format.order x 4687829947429945344 == some Ordering.lt) = true:=by rw [Q]; rfl
     have b2:(FloatKind.f64.format.order x 4687829947429945344 == some Ordering.eq) = false:=by rw [Q]; rfl
     clear Q
     go_enter Tryz.func137,Tryz.ntmps137
     go_wp2
     go_ret2
     exact ⟨by rw [(U HT).1,(U HT).2]; rfl,rfl⟩
    ·have b1:(FloatKind.f64.format.order x 4687829947429945344 == some Ordering.lt) = false:=by rw [Q]; rfl
     have b2:(FloatKind.f64.format.order x 4687829947429945344 == some Ordering.eq) = true:=by rw [Q]; rfl
     clear Q
     go_enter Tryz.func137,Tryz.ntmps137
     go_wp2
     go_ret2
     exact ⟨by rw [(U HT).1,(U HT).2]; rfl,rfl⟩
   ·have HT:Hid (tkS x = n∧tkOk x = true):=⟨hS,qa⟩
    clear qa eN eR hS
    rcases Q with Q | Q
    ·have b1:(FloatKind.f64.format.order x 4687829947429945344 == some Ordering.lt) = true:=by rw [Q]; rfl
     have b2:(FloatKind.f64.format.order x 4687829947429945344 == some Ordering.eq) = false:=by rw [Q]; rfl
     clear Q
     go_enter Tryz.func137,Tryz.ntmps137
     go_wp2
     go_ret2
     exact ⟨by rw [(U HT).1,(U HT).2]; rfl,rfl⟩
    ·have b1:(FloatKind.f64.format.order x 4687829947429945344 == some Ordering.lt) = false:=by rw [Q]; rfl
     have b2:(FloatKind.f64.format.order x 4687829947429945344 == some Ordering.eq) = true:=by rw [Q]; rfl
     clear Q
     go_enter Tryz.func137,Tryz.ntmps137
     go_wp2
     go_ret2
     exact ⟨by rw [(U HT).1,(U HT).2]; rfl,rfl⟩
  ·have b0:(FloatKind.f64.format.order x 0 == some Ordering.gt) = true:=by rw [h0]; rfl
   have b1:(FloatKind.f64.format.order x 4687829947429945344 == some Ordering.lt) = false:=by rw [xe]; exact fun h=>Q (.inl h)
   have b2:(FloatKind.f64.format.order x 4687829947429945344 == some Ordering.eq) = false:=by rw [xe]; exact fun h=>Q (.inr h)
   have qa:tkOk x = false:=by unfold tkOk; rw [b0,b1,b2]; rfl
   have HT:Hid (tkS x = 0∧tkOk x = false):=⟨by unfold tkS; rw [b0,b1,b2]; rfl,qa⟩
   clear h0 Q qa
   go_enter Tryz.func137,Tryz.ntmps137
   go_wp2
   go_ret2
   exact ⟨by rw [(U HT).1,(U HT).2]; rfl,rfl⟩
 ·have b0:(FloatKind.f64.format.order x 0 == some Ordering.gt) = false:=by rw [xe]; exact h0
  have qa:tkOk x = false:=by unfold tkOk; rw [b0]; rfl
  have HT:Hid (tkS x = 0∧tkOk x = false):=⟨by unfold tkS; rw [b0]; rfl,qa⟩
  clear h0 qa
  go_enter Tryz.func137,Tryz.ntmps137
  go_wp2
  go_ret2
  exact ⟨by rw [(U HT).1,(U HT).2]; rfl,rfl⟩
theorem bitsS_any (x:Nat) (w:World) :
  Calls Tryz.prog 166 #[yj x] w fun e w'=>e = ym (.int .u64 (fbit x))∧w' = w:=by
 have X:=fbits
 cases h:nanB x with
 | true =>
  have HF:=Y (show fbit x = 9221120237041090560 from if_pos h)
  have h':(FloatKind.f64.format.order x x != some Ordering.eq) = true:=h
  clear h
  go_enter Tryz.func166,Tryz.ntmps166
  go_wp2
  go_ret
  exact ⟨zt (by rw [U HF]; rfl),rfl⟩
 | false =>
  have HF:=Y (show fbit x = x from if_neg (by rw [h]; decide))
  have h':(FloatKind.f64.format.order x x != some Ordering.eq) = false:=h
  clear h
  go_enter Tryz.func166,Tryz.ntmps166
  go_wp2
  go_ret
  exact ⟨zt (by rw [U HF]),rfl⟩
theorem l04Zero_any (x:Nat) (w:World) :
  Calls Tryz.prog 159 #[yj x] w fun e w'=>e = ym (.bool (decide (fbit x = 0)))∧w' = w:=by
 have HL:=Y (fun w=>bitsS_any x w)
 generalize fbit x = u at *
 have hdec:decide (u = 0) = (((u:Nat):Int) == 0):=by
  by_cases h:u = 0 <;> simp [h]
 go_enter Tryz.func159,Tryz.ntmps159
 go_wp2_with fail
 refine (U HL _).mono ?_
 rintro e w' ⟨rfl,rfl⟩
 have HD:=Y hdec
 clear hdec
 go_wp2_with fail
 go_ret
 exact ⟨zB (U HD).symm,rfl⟩
end Go.Proofs.YtbakanofkghmiaaGreat
