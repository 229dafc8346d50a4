/-
  A command done by the engine: proved by walking the method.
-/
import Derived.Test.YtbakanofkghmiaaGreatPj30
import Derived.Test.YtbakanofkghmiaaGreatPj31
set_option linter.unusedVariables false
set_option maxHeartbeats 6400000
set_option maxRecDepth 100000
namespace Go.Proofs.YtbakanofkghmiaaGreat
open Go.RowKit
def stN (next:Int) (l:List Od) (c:Cm):Int:=if refR next l c = 0∧c.k = 1 then next + 1 else next
def stL (next:Int) (l:List Od) (c:Cm):List Od :=
 if refR next l c = 0 then
  if c.k = 1 then accL c next (matL c next 21 l c.q [])
  else if c.k = 2 then (match l[(plc l c.i).toNat]? with | some o=>zR l (plc l c.i).toNat o o.left | none=>l)
  else if c.k = 3 then (match l[(plc l c.i).toNat]? with | some o=>l.set (plc l c.i).toNat { o with left:=c.q } | none=>l)
  else l.filter ndy
 else l
def stE (next:Int) (l:List Od) (c:Cm):List Ev :=
 if refR next l c = 0 then
  if c.k = 1 then accE c next (matL c next 21 l c.q [])
  else if c.k = 2 then (match l[(plc l c.i).toNat]? with | some o=>[⟨6,zCm,c.i,0,o.left,0,0⟩] | none=>[])
  else if c.k = 3 then [⟨7,zCm,c.i,0,c.q,0,0⟩]
  else ⟨8,zCm,0,0,((l.filter dyB).length:Nat),0,0⟩ :: (l.filter dyB).map expE
 else [⟨2,⟨c.k,c.s,c.t,c.l,c.q,c.i,c.p,cutB c.g⟩,0,0,0,0,refR next l c⟩]
theorem ens_box {N B Bo bx:Nat} {W:World} {gv:Value} {gs:List Value} {gl:List (List Ev)} {next:Int} {vq:Value} {l:List Od} {t:Tot} {vo:Value} {ts:List Ev} (h:EnS N B Bo W gv gs gl next vq l t vo ts) (hb:∃ xp,W.heap[bx]? = some (.cells xp 43 (0,0))) (o:Nat) (u:Value):EnS N B Bo (W.setCell (J bx o) u) gv gs gl next vq l t vo ts:=by
 have xA:bx ≠ N:=by
  rintro rfl
  obtain ⟨c1,z⟩:=hb
  obtain ⟨c2,K⟩:=h.box
  rw [z] at K
  simp at K
 refine ⟨fun j u' L=>(yI _ _ _ _ (fun e=>xA (congrArg Addr.block e))).trans (h.cells j u' L),bj h.there,zw h.grow (zo h.grow hb (by decide)) _ _,h.glen,fun i g es hg jX=>zw (h.geach i g es hg jX) (zo (h.geach i g es hg jX) hb (by decide)) _ _,h.glt,zw h.orow (zo h.orow hb (by decide)) _ _,zw h.erow (zo h.erow hb (by decide)) _ _,?_,h.bo,by simp only [World.setCell,Array.size_modify]; exact h.le⟩
 obtain ⟨c2,K⟩:=h.box
 exact ⟨c2,(yP _ _ _ _ (fun e=>xA e.symm)).trans K⟩
theorem de {next:Int} {l:List Od} {c:Cm} (h:refR next l c = 0):c.k = 1 ∨ c.k = 2 ∨ c.k = 3 ∨ c.k = 4:=by
 rw [refR] at h
 split at h
 ·omega
 ·split at h
  ·omega
  ·split at h
   ·omega
   ·split at h
    ·omega
    ·cases h
theorem ref_new {next:Int} {l:List Od} {c:Cm} (h:refR next l c = 0) (hk:c.k = 1):newR next l c = 0:=by
 rw [refR,if_pos hk] at h
 split at h
 ·exact h
 ·cases h
theorem dx {next:Int} {l:List Od} {c:Cm} (h:refR next l c = 0) (hk:c.k = 1):1 ≤ c.q∧c.q ≤ 1000000:=by
 have h:=ref_new h hk
 rw [newR] at h
 repeat (split at h; (· cases h))
 rename_i h7 _
 simp [betB] at h7
 omega
theorem ref_id {next:Int} {l:List Od} {c:Cm} (h:refR next l c = 0) (hk:c.k = 2 ∨ c.k = 3):∃ (k:Nat) (o:Od),plc l c.i = k∧l[k]? = some o:=by
 rcases du l c.i with z | z
 ·exfalso
  rw [refR] at h
  rcases hk with hk | hk
  ·rw [if_neg (by omega),if_pos hk] at h
   split at h
   ·simp [idR,z] at h
   ·cases h
  ·rw [if_neg (by omega),if_neg (by omega),if_pos hk] at h
   split at h
   ·rw [redR] at h
    split at h
    ·simp [z] at h
    ·cases h
   ·cases h
 ·exact z
theorem doE_any {N B Bo:Nat} {gv:Value} {gs:List Value} {gl:List (List Ev)} {next:Int} {vq:Value} {l:List Od} {t:Tot} (c:Cm) (w:World) (h:EnS N B Bo w gv gs gl next vq l t (.slice none 0 0) []) (hg:GoodL l) (h0:0 ≤ next) (z:next ≤ 1000000) (htg:c.g.size ≤ maxLen) (hgn:gs.length ≤ 999) :
  Calls Tryz.prog 32 #[I N 0,cmV c] w fun r w'=>r = yk (.tuple #[])∧(∃ Bo' jh gs' uV,EnS N B Bo' w' jh gs' (gl ++ [stE next l c]) (stN next l c) uV (stL next l c) (wgT t (stE next l c)) (.slice none 0 0) [])∧KeptBut N B w w':=by
 have qr:=h.lt
 have oL:B ≤ w.heap.size:=yK h.bo h.le
 have vG:=hg.len
 obtain ⟨a,F,rfl,vy,hc⟩:=zT h.orow (by omega)
 have HRD0:=Q (zT h.orow (by omega))
 have pW:=Q (fun (W:World) hW=>refusal_any next (.slice a l.length F) l c W hW (cD h.orow) hg h0 z htg)
 have HK:=Q (@de next l c)
 have HQ:=Q (@dx next l c)
 have qA:=Q (@ref_id next l c)
 have uB:Hid (stN next l c = if refR next l c = 0∧c.k = 1 then next + 1 else next):=rfl
 have uW:=Q (stL.eq_1 next l c)
 have uA:=Q (stE.eq_1 next l c)
 obtain ⟨kk,s,ty,li,X,ii,pr,O⟩:=c
 generalize stN next l ⟨kk,s,ty,li,X,ii,pr,O⟩ = sN at uB ⊢
 generalize stL next l ⟨kk,s,ty,li,X,ii,pr,O⟩ = sL at uW ⊢
 generalize stE next l ⟨kk,s,ty,li,X,ii,pr,O⟩ = sE at uA ⊢
 generalize refR next l ⟨kk,s,ty,li,X,ii,pr,O⟩ = rr at pW uB uW uA HK HQ qA
 unfold cmV at pW ⊢
 simp only at pW uB uW uA HK HQ qA htg ⊢
 have xR:=eD w (E (yu kk s ty li X ii pr O).toArray 43)
 have HE:=Q (zS h xR)
 have xT:=Q xR
 have xz:w.heap.size < (w.alloc (E (yu kk s ty li X ii pr O).toArray 43)).heap.size:=by rw [ze]; omega
 have pM:Hid (World.rangeAt (w.alloc (E (yu kk s ty li X ii pr O).toArray 43)) w.heap.size 0 (yu kk s ty li X ii pr O)):=zg w (yu kk s ty li X ii pr O) _
 have jf:Hid (World.there (w.alloc (E (yu kk s ty li X ii pr O).toArray 43)) w.heap.size 0 8):=zH w (yu kk s ty li X ii pr O) _
 have uE:Hid (∃ xp,(w.alloc (E (yu kk s ty li X ii pr O).toArray 43)).heap[w.heap.size]? = some (.cells xp 43 (0,0))):=⟨_,heap_alloc_new w _⟩
 have qC:=Q (zh (M HRD0) xR tg)
 have HG:=Q hg
 have ur:Hid (0 ≤ next∧next ≤ 1000000):=⟨h0,z⟩
 have qU:=Q htg
 clear h xR hc vy hg h0 z HRD0 htg
 go_enter_defers Tryz.func32,Tryz.ntmps32
 refine eH fun h2 xu=>?_
 go_wp2_with fail
 refine M xu _ _ ?_
 clear xu
 refine eH fun h2 xu=>?_
 go_wp2_with fail
 refine M xu _ _ ?_
 clear xu
 generalize (w.alloc (E (yu kk s ty li X ii pr O).toArray 43)) = qt at HE xT xz pM jf uE qC ⊢
 have qa:Hid (qt.cell? (J N 1) = some (H next)):=(M HE).cells 1 _ rfl
 have vv:Hid (qt.cell? (J N 2) = some (.slice a l.length F)):=(M HE).cells 2 _ rfl
 refine eH fun h2 xu=>?_
 refine eH fun K2 kw=>?_
 refine zi (RG qt (fun f=>{ tmps:=#[I N 0,.agg (yu kk s ty li X ii pr O).toArray,Z,ym w 0,f 7,Z,Z,Z,Z,I N 0,f 0,f 1,f 2,f 3,f 4,f 5,f 6,Z,Z,Z,Z,Z,Z,Z,Z,Z,Z,Z,Z,Z,Z,Z,Z,Z,Z,Z,Z,Z,Z,Z,Z,Z,Z,Z,Z,Z,Z,Z,Z,Z,Z,Z,Z],defers:=[{ target:=.fn (.func 62) #[],args:=#[I N 0] }] }) 99 (DVE [I N 0,I N 0,I N 0,I N 1,.agg #[H next,.slice a l.length F],.agg (yu kk s ty li X ii pr O).toArray,H rr,H rr])) (by kernel_rfl) ?_ ?_ ?_
 ·exact ⟨fun _=>Z,rfl,⟨rfl,rfl,rfl,Nat.le_refl _,fun _ _=>rfl⟩,fun j L=>by rw [yF] at L; split at L <;> simp at L⟩
 rotate_left
 ·rintro x hR V i op ⟨f,rfl,xe,U⟩ xk hx Y xq D
  clear xk
  have xo:=Q xe
  have HD:=Q U
  have xj:∀ (p:Addr) u,qt.cell? p = some u→V.cell? p = some u:=fun p u hu=>(xe.cell (yH qt _ hu)).trans hu
  have oJ:=Q (zh (M qC) xe tg)
  match i,Y with
  | 0,Y =>
   obtain rfl:=hD Y
   clear D U xe xj
   rw [if_pos (by rfl)];unfold Oper.wp;go_simp
   exact ⟨upd f 0 (I N 0),by simp [upd],zc (M xo) (M HD) (by decide) (ye rfl)⟩
  | 1,Y =>
   obtain rfl:=hD Y
   have g0:=U 0 (yc D 0 rfl) _ rfl
   clear D U xe xj
   rw [if_pos (by rfl)];unfold Oper.wp;go_simp
   exact ⟨upd f 1 (I N 0),by simp [upd,g0],zc (M xo) (M HD) (by decide) (ye rfl)⟩
  | 2,Y =>
   obtain rfl:=hD Y
   have g1:=U 1 (yc D 1 rfl) _ rfl
   clear D U xe xj
   rw [if_pos (by rfl)];unfold Oper.wp;go_simp
   exact ⟨upd f 2 (I N 0),by simp [upd,g1],zc (M xo) (M HD) (by decide) (ye rfl)⟩
  | 3,Y =>
   obtain rfl:=hD Y
   have g2:=U 2 (yc D 2 rfl) _ rfl
   clear D U xe xj
   rw [if_pos (by rfl)];unfold Oper.wp;go_simp
   exact ⟨upd f 3 (I N 1),by simp [upd,g2],zc (M xo) (M HD) (by decide) (ye rfl)⟩
  | 4,Y =>
   obtain rfl:=hD Y
   have g3:=U 3 (yc D 3 rfl) _ rfl
   have z1:=xj (J N 1) _ (M qa)
   have z2:=xj (J N 2) _ (M vv)
   clear D U xe xj
   rw [if_pos (by rfl)];unfold Oper.wp;go_simp
   exact ⟨upd f 4 (.agg #[H next,.slice a l.length F]),by simp [upd,g3],zc (M xo) (M HD) (by decide) (ye rfl)⟩
  | 5,Y =>
   obtain rfl:=hD Y
   have y0:=xj (yn w 0) _ (M pM 0 _ rfl)
   have y1:=xj (yn w 1) _ (M pM 1 _ rfl)
   have y2:=xj (yn w 2) _ (M pM 2 _ rfl)
   have y3:=xj (yn w 3) _ (M pM 3 _ rfl)
   have y4:=xj (yn w 4) _ (M pM 4 _ rfl)
   have y5:=xj (yn w 5) _ (M pM 5 _ rfl)
   have y6:=xj (yn w 6) _ (M pM 6 _ rfl)
   have y7:=xj (yn w 7) _ (M pM 7 _ rfl)
   clear D U xe xj
   rw [if_pos (by rfl)];unfold Oper.wp;go_simp
   exact ⟨upd f 5 (.agg (yu kk s ty li X ii pr O).toArray),by simp [upd],zc (M xo) (M HD) (by decide) (ye rfl)⟩
  | 6,Y =>
   obtain rfl:=hD Y
   have g4:=U 4 (yc D 4 rfl) _ rfl
   have g5:=U 5 (yc D 5 rfl) _ rfl
   clear D U xe xj
   rw [if_pos (by rfl)];unfold Oper.wp;go_simp
   refine (M pW V (M oJ)).mono ?_
   rintro e w4 ⟨rfl,xy⟩
   exact ⟨upd f 6 (H rr),by simp [upd,g4,g5],bP dvE_mono (M xo) (M HD) xy (by decide) (ye rfl)⟩
  | 7,Y =>
   obtain rfl:=hD Y
   have g6:=U 6 (yc D 6 rfl) _ rfl
   clear D U xe xj
   rw [if_pos (by rfl)];unfold Oper.wp;go_simp
   exact ⟨upd f 7 (H rr),by simp [upd,g6],zc (M xo) (M HD) (by decide) (ye rfl)⟩
  | i + 8,Y=>simp at Y
 ·rintro x hR V ⟨f,rfl,xe,U⟩ hx xK
  have xm:=zL xK hx (by kernel_rfl)
  have e7:f 7 = H rr:=U 7 (xm 7 (by simp)) _ rfl
  refine M kw _ _ ?_
  clear kw
  simp only [e7]
  generalize f 0 = v0,f 1 = v1,f 2 = v2,f 3 = v3,f 4 = v4,f 5 = v5,f 6 = v6
  have qV:=Q (zS (M HE) xe)
  have HKV:Hid (KeptBut N B w V):=zk (zC (M xT) oL) (zC xe (by omega))
  have jP:=Q (zb (M pM) xe xz)
  have HTV:=Q (zf (M jf) xe xz)
  have xo:Hid (∃ xp,V.heap[w.heap.size]? = some (.cells xp 43 (0,0))):=by obtain ⟨xp,hc⟩:=M uE; exact ⟨xp,(xe.block _ xz).trans hc⟩
  have hsV:w.heap.size < V.heap.size:=yG xz xe.size
  clear U xm e7 xK hx xe qa vv qC HE pM jf uE pW xT xz
  obtain ⟨y0,y1,y2,y3,y4,y5,y6,y7⟩:=yA (M jP)
  by_cases uR:rr = 0
  ·subst uR
   have pA:=M HK rfl
   rcases pA with rfl | rfl | rfl | rfl
   ·have hq:=M HQ rfl rfl
    have ux:Hid (sN = next + 1∧sL = _∧sE = _):=⟨by rw [M uB,if_pos ⟨rfl,rfl⟩],by rw [M uW,if_pos rfl,if_pos rfl],by rw [M uA,if_pos rfl,if_pos rfl]⟩
    have HLE:Hid ((accE ⟨1,s,ty,li,X,ii,pr,O⟩ next (matL ⟨1,s,ty,li,X,ii,pr,O⟩ next 21 l X [])).length ≤ 1000):=by
     have z:=matL_few (c:=⟨1,s,ty,li,X,ii,pr,O⟩) (id:=next) 21 l X []
     show _ ≤ _
     simp only [accE,List.cons_append,List.length_cons,yM,List.length_nil] at z ⊢
     split <;> simp <;> omega
    clear uB uW uA HQ qA HK
    go_wp2_with fail
    refine M xu _ _ ?_
    clear xu
    go_wp2_with fail
    refine (cx ⟨1,s,ty,li,X,ii,pr,O⟩ V).mono ?_
    have jb:cmdI ⟨1,s,ty,li,X,ii,pr,O⟩ = .iface 112 (.agg #[H s,H ty,H li,H X,yh pr,yi O]):=by simp [cmdI,noV]
    rw [jb]
    clear jb
    rintro e w4 ⟨rfl,xy⟩
    have uN:=eD w4 (E #[H s,H ty,H li,H X,yh pr,yi O] 112)
    have vN:=Q (zS (zS (M qV) xy) uN)
    have ky:Hid (KeptBut N B w (w4.alloc (E #[H s,H ty,H li,H X,yh pr,yi O] 112))):=zk (zk (M HKV) (zC xy (by omega))) (zC uN (by have:=xy.size; omega))
    clear xy uN y0 y1 y2 y3 y4 y5 y6 y7
    have ta1:∀ W:World,Sem.run Tryz.prog (Instr.typeAssert (.iface 112 (.agg #[H s,H ty,H li,H X,yh pr,yi O])) 109 112 true) W = .ok (.tuple #[.agg #[H s,H ty,H li,H X,yh pr,yi O],.bool true]) W:=fun W=>by kernel_rfl
    have hsf:=sfl
    go_wp2_with fail
    generalize (w4.alloc (E #[H s,H ty,H li,H X,yh pr,yi O] 112)) = ho at vN ky ⊢
    refine (acceptE_any ⟨1,s,ty,li,X,ii,pr,O⟩ ho (M vN) (M HG) (M ur).1 (M ur).2 (show 0 ≤ X by omega) hq.2).mono ?_
    rintro e w6 ⟨rfl,⟨Bo6,vq6,vo6,jM⟩,ko⟩
    have vZ:=Q jM
    have pR:=Q (zk (M ky) ko)
    clear jM ko
    go_wp2_with fail
    refine leaves_cons (f:=62) (args:=#[I N 0]) (by simp) (by simp [go_sem]) ?_
    refine (dL .returning w6 (M vZ) (M HLE) (by omega)).mono ?_
    rintro e u' w' ⟨rfl,rfl,⟨jh,hE'⟩,ow⟩
    simp only [Leaves,settle,results,Tryz.results32,go_sem]
    simp
    obtain ⟨rfl,rfl,rfl⟩:=M ux
    exact ⟨⟨_,jh,_,_,hE'⟩,zk (M pR) ow⟩
   ·obtain ⟨k,o,oC,jc⟩:=M qA rfl (by simp)
    have hob:=(M HG).left o (yL jc)
    have jD:(plc l ii).toNat = k:=by rw [oC]; rfl
    have ux:Hid (sN = next∧sL = zR l k o o.left∧sE = [⟨6,zCm,ii,0,o.left,0,0⟩]):=⟨by rw [M uB,if_neg (fun h=>by have:=h.2; omega)],by rw [M uW,if_pos rfl,if_neg (by omega),if_pos rfl]; simp only [jD,jc],by rw [M uA,if_pos rfl,if_neg (by omega),if_pos rfl]; simp only [jD,jc]⟩
    have HLE:Hid (([] ++ [(⟨6,zCm,ii,0,o.left,0,0⟩:Ev)]).length ≤ 1000):=by show _ ≤ _; simp
    have HPK:=Q oC
    have HLO:=Q jc
    clear oC jc jD
    clear uB uW uA HQ qA HK
    go_wp2_with fail
    refine M xu _ _ ?_
    clear xu
    go_wp2_with fail
    refine (cx ⟨2,s,ty,li,X,ii,pr,O⟩ V).mono ?_
    have jb:cmdI ⟨2,s,ty,li,X,ii,pr,O⟩ = .iface 115 (.agg #[H ii]):=by simp [cmdI]
    rw [jb]
    clear jb
    rintro e w4 ⟨rfl,xy⟩
    have uN:=eD w4 (E #[H ii] 115)
    have vN:=Q (zS (zS (M qV) xy) uN)
    have ky:Hid (KeptBut N B w (w4.alloc (E #[H ii] 115))):=zk (zk (M HKV) (zC xy (by omega))) (zC uN (by have:=xy.size; omega))
    clear xy uN y0 y1 y2 y3 y4 y5 y6 y7
    have ta1:∀ W:World,Sem.run Tryz.prog (Instr.typeAssert (.iface 115 (.agg #[H ii])) 109 112 true) W = .ok (.tuple #[.agg #[H 0,H 0,H 0,H 0,yh 0,yi ⟨#[]⟩],.bool false]) W:=fun W=>by kernel_rfl
    have ta2:∀ W:World,Sem.run Tryz.prog (Instr.typeAssert (.iface 115 (.agg #[H ii])) 109 115 true) W = .ok (.tuple #[.agg #[H ii],.bool true]) W:=fun W=>by kernel_rfl
    have hsf:=sfl
    go_wp2_with fail
    generalize (w4.alloc (E #[H ii] 115)) = ho at vN ky ⊢
    refine (cancelE_any ii k o ho (M vN) (by omega) (by simp) (M HPK) (M HLO) (by omega) hob.2).mono ?_
    rintro e w6 ⟨rfl,⟨vq6,vo6,jM⟩,ko⟩
    have vZ:=Q jM
    have pR:=Q (zk (M ky) ko)
    clear jM ko
    go_wp2_with fail
    refine leaves_cons (f:=62) (args:=#[I N 0]) (by simp) (by simp [go_sem]) ?_
    refine (dL .returning w6 (M vZ) (M HLE) (by omega)).mono ?_
    rintro e u' w' ⟨rfl,rfl,⟨jh,hE'⟩,ow⟩
    simp only [Leaves,settle,results,Tryz.results32,go_sem]
    simp
    obtain ⟨rfl,rfl,rfl⟩:=M ux
    exact ⟨⟨_,jh,_,_,hE'⟩,zk (M pR) ow⟩
   ·obtain ⟨k,o,oC,jc⟩:=M qA rfl (by simp)
    have hob:=(M HG).left o (yL jc)
    have jD:(plc l ii).toNat = k:=by rw [oC]; rfl
    have ux:Hid (sN = next∧sL = l.set k { o with left:=X }∧sE = [⟨7,zCm,ii,0,X,0,0⟩]):=⟨by rw [M uB,if_neg (fun h=>by have:=h.2; omega)],by rw [M uW,if_pos rfl,if_neg (by omega),if_neg (by omega),if_pos rfl]; simp only [jD,jc],by rw [M uA,if_pos rfl,if_neg (by omega),if_neg (by omega),if_pos rfl]⟩
    have HLE:Hid (([] ++ [(⟨7,zCm,ii,0,X,0,0⟩:Ev)]).length ≤ 1000):=by show _ ≤ _; simp
    have HPK:=Q oC
    have HLO:=Q jc
    clear oC jc jD
    clear uB uW uA HQ qA HK
    go_wp2_with fail
    refine M xu _ _ ?_
    clear xu
    go_wp2_with fail
    refine (cx ⟨3,s,ty,li,X,ii,pr,O⟩ V).mono ?_
    have jb:cmdI ⟨3,s,ty,li,X,ii,pr,O⟩ = .iface 118 (.agg #[H ii,H X]):=by simp [cmdI]
    rw [jb]
    clear jb
    rintro e w4 ⟨rfl,xy⟩
    have uN:=eD w4 (E #[H ii,H X] 118)
    have vN:=Q (zS (zS (M qV) xy) uN)
    have ky:Hid (KeptBut N B w (w4.alloc (E #[H ii,H X] 118))):=zk (zk (M HKV) (zC xy (by omega))) (zC uN (by have:=xy.size; omega))
    clear xy uN y0 y1 y2 y3 y4 y5 y6 y7
    have ta1:∀ W:World,Sem.run Tryz.prog (Instr.typeAssert (.iface 118 (.agg #[H ii,H X])) 109 112 true) W = .ok (.tuple #[.agg #[H 0,H 0,H 0,H 0,yh 0,yi ⟨#[]⟩],.bool false]) W:=fun W=>by kernel_rfl
    have ta2:∀ W:World,Sem.run Tryz.prog (Instr.typeAssert (.iface 118 (.agg #[H ii,H X])) 109 115 true) W = .ok (.tuple #[.agg #[H 0],.bool false]) W:=fun W=>by kernel_rfl
    have ta3:∀ W:World,Sem.run Tryz.prog (Instr.typeAssert (.iface 118 (.agg #[H ii,H X])) 109 118 true) W = .ok (.tuple #[.agg #[H ii,H X],.bool true]) W:=fun W=>by kernel_rfl
    have hsf:=sfl
    go_wp2_with fail
    generalize (w4.alloc (E #[H ii,H X] 118)) = ho at vN ky ⊢
    refine (reduceE_any ii X k o ho (M vN) (by omega) (by simp) (M HPK) (M HLO)).mono ?_
    rintro e w6 ⟨rfl,⟨vo6,jM⟩,ko⟩
    have vZ:=Q jM
    have pR:=Q (zk (M ky) ko)
    clear jM ko
    go_wp2_with fail
    refine leaves_cons (f:=62) (args:=#[I N 0]) (by simp) (by simp [go_sem]) ?_
    refine (dL .returning w6 (M vZ) (M HLE) (by omega)).mono ?_
    rintro e u' w' ⟨rfl,rfl,⟨jh,hE'⟩,ow⟩
    simp only [Leaves,settle,results,Tryz.results32,go_sem]
    simp
    obtain ⟨rfl,rfl,rfl⟩:=M ux
    exact ⟨⟨_,jh,_,_,hE'⟩,zk (M pR) ow⟩
   ·have ux:Hid (sN = next∧sL = _∧sE = _):=⟨by rw [M uB,if_neg (fun h=>by have:=h.2; omega)],by rw [M uW,if_pos rfl,if_neg (by omega),if_neg (by omega),if_neg (by omega)],by rw [M uA,if_pos rfl,if_neg (by omega),if_neg (by omega),if_neg (by omega)]⟩
    have HLE:Hid (([] ++ [(⟨8,zCm,0,0,((l.filter dyB).length:Nat),0,0⟩:Ev)] ++ (l.filter dyB).map expE).length ≤ 1000):=by
     have z:(l.filter dyB).length ≤ 20:=yK (List.length_filter_le _ _) vG
     show _ ≤ _
     simp only [List.nil_append,yM,List.length_cons,List.length_nil,List.length_map]; omega
    clear uB uW uA HQ qA HK
    go_wp2_with fail
    refine M xu _ _ ?_
    clear xu
    go_wp2_with fail
    refine (cx ⟨4,s,ty,li,X,ii,pr,O⟩ V).mono ?_
    have jb:cmdI ⟨4,s,ty,li,X,ii,pr,O⟩ = .iface 121 (.agg #[]):=by simp [cmdI]
    rw [jb]
    clear jb
    rintro e w4 ⟨rfl,xy⟩
    have uN:=eD w4 (E #[] 121)
    have vN:=Q (zS (zS (M qV) xy) uN)
    have ky:Hid (KeptBut N B w (w4.alloc (E #[] 121))):=zk (zk (M HKV) (zC xy (by omega))) (zC uN (by have:=xy.size; omega))
    clear xy uN y0 y1 y2 y3 y4 y5 y6 y7
    have ta1:∀ W:World,Sem.run Tryz.prog (Instr.typeAssert (.iface 121 (.agg #[])) 109 112 true) W = .ok (.tuple #[.agg #[H 0,H 0,H 0,H 0,yh 0,yi ⟨#[]⟩],.bool false]) W:=fun W=>by kernel_rfl
    have ta2:∀ W:World,Sem.run Tryz.prog (Instr.typeAssert (.iface 121 (.agg #[])) 109 115 true) W = .ok (.tuple #[.agg #[H 0],.bool false]) W:=fun W=>by kernel_rfl
    have ta3:∀ W:World,Sem.run Tryz.prog (Instr.typeAssert (.iface 121 (.agg #[])) 109 118 true) W = .ok (.tuple #[.agg #[H 0,H 0],.bool false]) W:=fun W=>by kernel_rfl
    have ta4:∀ W:World,Sem.run Tryz.prog (Instr.typeAssert (.iface 121 (.agg #[])) 109 121 true) W = .ok (.tuple #[.agg #[],.bool true]) W:=fun W=>by kernel_rfl
    have hsf:=sfl
    go_wp2_with fail
    generalize (w4.alloc (E #[] 121)) = ho at vN ky ⊢
    refine (endDayE_any ho (M vN) (by omega) (by simp)).mono ?_
    rintro e w6 ⟨rfl,⟨vq6,vo6,jM⟩,ko⟩
    have vZ:=Q jM
    have pR:=Q (zk (M ky) ko)
    clear jM ko
    go_wp2_with fail
    refine leaves_cons (f:=62) (args:=#[I N 0]) (by simp) (by simp [go_sem]) ?_
    refine (dL .returning w6 (M vZ) (M HLE) (by omega)).mono ?_
    rintro e u' w' ⟨rfl,rfl,⟨jh,hE'⟩,ow⟩
    simp only [Leaves,settle,results,Tryz.results32,go_sem]
    simp
    obtain ⟨rfl,rfl,rfl⟩:=M ux
    exact ⟨⟨_,jh,_,_,hE'⟩,zk (M pR) ow⟩
  ·have qz:(rr == 0) = false:=by rw [xa]; exact uR
   have f7:V.frozen? (yn w 7) = false:=(M HTV 7 (by omega)).2
   have ux:Hid (sN = next∧sL = l∧sE = [⟨2,⟨kk,s,ty,li,X,ii,pr,cutB O⟩,0,0,0,0,rr⟩]):=⟨by rw [M uB,if_neg (fun h=>uR h.1)],by rw [M uW,if_neg uR],by rw [M uA,if_neg uR]⟩
   clear uR uB uW uA
   have HE9:=Q (ens_box (M qV) (M xo) 7 (yi (cutB O)))
   have HK9:Hid (KeptBut N B w (V.setCell (yn w 7) (yi (cutB O)))):=zk (M HKV) ⟨rfl,rfl,rfl,by simp [World.setCell],fun k hk _=>yP _ _ _ _ (show k ≠ w.heap.size by omega)⟩
   go_wp2_with fail
   refine (implCut_any O V (M qU)).mono ?_
   rintro e w' ⟨rfl,uc⟩
   rw [uc]
   clear uc w'
   go_wp2_with fail
   have HLE:Hid (([] ++ [⟨2,⟨kk,s,ty,li,X,ii,pr,cutB O⟩,0,0,0,0,rr⟩]:List Ev).length ≤ 1000):=by show _ ≤ _; simp
   refine (cB ⟨2,⟨kk,s,ty,li,X,ii,pr,cutB O⟩,0,0,0,0,rr⟩ _ (M HE9) (by simp)).mono ?_
   rintro e oX ⟨rfl,⟨vo10,hE10⟩,hk10,-⟩
   have HE10:=Q hE10
   have HK10:=Q (zk (M HK9) hk10)
   clear hE10 hk10 y0 y1 y2 y3 y4 y5 y6 y7 f7
   go_wp2_with fail
   refine leaves_cons (f:=62) (args:=#[I N 0]) (by simp) (by simp [go_sem]) ?_
   refine (dL .returning oX (M HE10) (M HLE) (by omega)).mono ?_
   rintro e u' w' ⟨rfl,rfl,⟨jh,hE'⟩,ow⟩
   simp only [Leaves,settle,results,Tryz.results32,go_sem]
   simp
   obtain ⟨rfl,rfl,rfl⟩:=M ux
   exact ⟨⟨_,jh,_,_,hE'⟩,zk (M HK10) ow⟩
def tkS (x:Nat):Int:=if ((FloatKind.f64.format.order x 0 == some Ordering.gt) && ((FloatKind.f64.format.order x 4687829947429945344 == some Ordering.lt) || (FloatKind.f64.format.order x 4687829947429945344 == some Ordering.eq))) = true then tkN x else 0
theorem tkS_ok {x:Nat} (h:tkOk x = true):tkS x = tk x:=by
 unfold tk tkS
 rw [if_pos h]
 unfold tkOk at h
 rw [xb] at h
 rw [if_pos h.1]
theorem l01Ticks_any (x:Nat) (w:World) :
  Calls Tryz.prog 137 #[yh x] w fun e w'=>e = yk (.tuple #[H (tkS x),.bool (tkOk x)])∧w' = w:=by
 by_cases h0:FloatKind.f64.format.order x 0 = some Ordering.gt
 ·by_cases z:FloatKind.f64.format.order x 4687829947429945344 = some Ordering.lt ∨ FloatKind.f64.format.order x 4687829947429945344 = some Ordering.eq
  ·obtain ⟨r,n,jl,pz,hn⟩:=price_four h0 z
   have hn':(n:Int) < 9007199254740992:=by omega
   have eR:tkR x = r:=by unfold tkR; rw [show FloatKind.f64.format.mul x 4616189618054758400 = some r from jl]; rfl
   have eN:tkN x = n:=by unfold tkN; rw [eR,show (FloatKind.f64.decode r).toInt .zero = some (n:Int) from pz]; rfl
   have b0:(FloatKind.f64.format.order x 0 == some Ordering.gt) = true:=by rw [h0]; rfl
   have hm:∀ W,(binOp .mul 41 (yh x) (yh 4616189618054758400)).run Tryz.prog W = .ok (yh r) W:=fun W=>by
    have:FloatKind.f64.format.mul x 4616189618054758400 = some r:=jl
    simp [binOp,Op.floatArith,this]
   have hc:∀ W,(convert 41 3 (yh r)).run Tryz.prog W = .ok (H n) W:=fun W=>by
    have K:(FloatKind.f64.decode r).toInt .zero = some (n:Int):=pz
    have hb:IntKind.i64.min ≤ (n:Int)∧(n:Int) ≤ IntKind.i64.max:=by
     rw [show IntKind.i64.min = -9223372036854775808 by decide,show IntKind.i64.max = 9223372036854775807 by decide]; omega
    simp [convert,run_underlying Tryz.underlying41,run_underlying Tryz.underlying3,Conv.floatToInt,K,hb.1]
    intro h
    omega
   have qp:((FloatKind.f64.format.order x 4687829947429945344 == some Ordering.lt) || (FloatKind.f64.format.order x 4687829947429945344 == some Ordering.eq)) = true:=by
    rcases z with z | z <;> rw [z] <;> rfl
   have xV:tkOk x = (FloatKind.f64.format.order (floatOfInt .f64 n) r == some Ordering.eq):=by unfold tkOk; rw [eN,eR,b0,qp]; rfl
   have hS:tkS x = n:=by unfold tkS; rw [b0,qp,eN]; rfl
   clear jl pz h0 qp
   cases he:(FloatKind.f64.format.order (floatOfInt .f64 n) r == some Ordering.eq)
   all_goals
    have he2:(FloatKind.f64.format.order (floatOfInt .f64 n) r != some Ordering.eq) = !(FloatKind.f64.format.order (floatOfInt .f64 n) r == some Ordering.eq):=rfl
    rw [he] at he2
    rw [he] at xV
   ·have HT:Hid (tkS x = n∧tkOk x = false):=⟨hS,xV⟩
    clear xV eN eR hS
    rcases z with z | z
    ·have b1:(FloatKind.f64.format.order x 4687829947429945344 == some Ordering.lt) = true:=by rw [z]; rfl
     have b2:(FloatKind.f64.format.order x 4687829947429945344 == some Ordering.eq) = false:=by rw [z]; rfl
     clear z
     go_enter Tryz.func137,Tryz.ntmps137
     go_wp2
     go_ret2
     exact ⟨by rw [(M HT).1,(M HT).2]; rfl,rfl⟩
    ·have b1:(FloatKind.f64.format.order x 4687829947429945344 == some Ordering.lt) = false:=by rw [z]; rfl
     have b2:(FloatKind.f64.format.order x 4687829947429945344 == some Ordering.eq) = true:=by rw [z]; rfl
     clear z
     go_enter Tryz.func137,Tryz.ntmps137
     go_wp2
     go_ret2
     exact ⟨by rw [(M HT).1,(M HT).2]; rfl,rfl⟩
   ·have HT:Hid (tkS x = n∧tkOk x = true):=⟨hS,xV⟩
    clear xV eN eR hS
    rcases z with z | z
    ·have b1:(FloatKind.f64.format.order x 4687829947429945344 == some Ordering.lt) = true:=by rw [z]; rfl
     have b2:(FloatKind.f64.format.order x 4687829947429945344 == some Ordering.eq) = false:=by rw [z]; rfl
     clear z
     go_enter Tryz.func137,Tryz.ntmps137
     go_wp2
     go_ret2
     exact ⟨by rw [(M HT).1,(M HT).2]; rfl,rfl⟩
    ·have b1:(FloatKind.f64.format.order x 4687829947429945344 == some Ordering.lt) = false:=by rw [z]; rfl
     have b2:(FloatKind.f64.format.order x 4687829947429945344 == some Ordering.eq) = true:=by rw [z]; rfl
     clear z
     go_enter Tryz.func137,Tryz.ntmps137
     go_wp2
     go_ret2
     exact ⟨by rw [(M HT).1,(M HT).2]; rfl,rfl⟩
  ·have b0:(FloatKind.f64.format.order x 0 == some Ordering.gt) = true:=by rw [h0]; rfl
   have b1:(FloatKind.f64.format.order x 4687829947429945344 == some Ordering.lt) = false:=by rw [xa]; exact fun h=>z (.inl h)
   have b2:(FloatKind.f64.format.order x 4687829947429945344 == some Ordering.eq) = false:=by rw [xa]; exact fun h=>z (.inr h)
   have xV:tkOk x = false:=by unfold tkOk; rw [b0,b1,b2]; rfl
   have HT:Hid (tkS x = 0∧tkOk x = false):=⟨by unfold tkS; rw [b0,b1,b2]; rfl,xV⟩
   clear h0 z xV
   go_enter Tryz.func137,Tryz.ntmps137
   go_wp2
   go_ret2
   exact ⟨by rw [(M HT).1,(M HT).2]; rfl,rfl⟩
 ·have b0:(FloatKind.f64.format.order x 0 == some Ordering.gt) = false:=by rw [xa]; exact h0
  have xV:tkOk x = false:=by unfold tkOk; rw [b0]; rfl
  have HT:Hid (tkS x = 0∧tkOk x = false):=⟨by unfold tkS; rw [b0]; rfl,xV⟩
  clear h0 xV
  go_enter Tryz.func137,Tryz.ntmps137
  go_wp2
  go_ret2
  exact ⟨by rw [(M HT).1,(M HT).2]; rfl,rfl⟩
theorem bitsS_any (x:Nat) (w:World) :
  Calls Tryz.prog 166 #[yh x] w fun e w'=>e = yk (.int .u64 (fbit x))∧w' = w:=by
 have hb:=fbits
 cases h:nanB x with
 | true =>
  have HF:=Q (show fbit x = 9221120237041090560 from if_pos h)
  have h':(FloatKind.f64.format.order x x != some Ordering.eq) = true:=h
  clear h
  go_enter Tryz.func166,Tryz.ntmps166
  go_wp2
  go_ret
  exact ⟨zv (by rw [M HF]; rfl),rfl⟩
 | false =>
  have HF:=Q (show fbit x = x from if_neg (by rw [h]; decide))
  have h':(FloatKind.f64.format.order x x != some Ordering.eq) = false:=h
  clear h
  go_enter Tryz.func166,Tryz.ntmps166
  go_wp2
  go_ret
  exact ⟨zv (by rw [M HF]),rfl⟩
end Go.Proofs.YtbakanofkghmiaaGreat
