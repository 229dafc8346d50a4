/-
  RunScript by the program: proved by walking the function.
-/
import Derived.Test.YtdliebbfcmdmaaaGreatMj39
set_option linter.unusedVariables false
set_option maxHeartbeats 6400000
set_option maxRecDepth 100000
namespace Go.Proofs.YtdliebbfcmdmaaaGreat
open Go.RowKit
section
variable {C:Nat→Value→Prop} {mb:Nat} {tv:List Value} {base W W':World} {x:List Bool} {f:Nat→Value}
end
theorem below_keptR {mb B:Nat} {w yb W:World} (Q:yn w yb) (N:KeptBut mb B yb W) (hB:w.heap.size ≤ B) (hm:w.heap.size ≤ mb):yn w W :=
 ⟨N.os.trans Q.os,N.tape.trans Q.tape,N.output.trans Q.output,yN Q.size N.size,fun k hk=>(N.block k (by omega) (by omega)).trans (Q.block k hk)⟩
theorem row_end {e sz n mb hj B C:Nat} {v:Value} {xs:List Value} {W V2:World} (h:W.ownsRow B e sz v n xs) (hm:some mb ≠ v.ownBlock) (L:yn W V2) (K:hj < B) (hC:C ≤ B) (us vs:List Value) (o1 o2:Nat):((V2.setCells mb o1 us).setCells hj o2 vs).ownsRow C e sz v n xs:=by
 have Q:V2.ownsRow B e sz v n xs:=World.ownsRow.kept (row:=none) h (zX L tg) (by cases v.ownBlock <;> simp)
 have N:=ch hm us o1 V2 Q
 have h3:=ch (b:=hj) (fun e'=>by have:=(h.lt hj e'.symm).1; omega) vs o2 _ N
 refine ⟨h3.1,?_⟩
 rcases h3.2 with k1 | ⟨g',c',xr,k1,k2,k3⟩
 ·exact .inl k1
 ·exact .inr ⟨g',c',xr,k1,yN hC k2,k3⟩
structure GRs (W:World) (B:Nat) (gv:Value) (gl:List (List Ev)):Prop where
 ex:∃ gs:List Value,GRow W B gv gs∧gs.length = gl.length∧∀ (i:Nat) (g:Value) (es:List Ev),gs[i]? = some g→gl[i]? = some es→ERow W B g es
structure GRa (W:World) (B:Nat) (gv:Value) (gl:List (List Ev)):Prop where
 ex:∃ gs:List Value,GRow W B gv gs∧gs.length = gl.length∧(∀ (i:Nat) (g:Value) (es:List Ev),gs[i]? = some g→gl[i]? = some es→ERow W B g es)∧gs.Pairwise fun g g'=>∀ b b',g.ownBlock = some b→g'.ownBlock = some b'→b < b'
theorem dX (v:Value) (cs:List Cm) (w:World) (hr:RdR Cm.vs 8 w v cs) (pM:∀ c ∈ cs,c.g.size ≤ maxLen) :
  Calls Tryz.prog 5 #[v] w fun e w'=>∃ gv vq,e = ym (.tuple #[.agg #[gv,H (rsF cs).n,vq,H (rsF cs).t.gr,H (rsF cs).t.ac,H (rsF cs).t.rf,H (rsF cs).t.tr,H (rsF cs).t.vo,H (rsF cs).t.no,H (rsF cs).t.li,H (rsF cs).t.le],H (cntF cs.length)])∧GRa w' w.heap.size gv (rsF cs).g∧ORow w' w.heap.size vq (rsF cs).l∧yn w w':=by
 have HR:=Y hr
 have qI:=Y pM
 obtain ⟨a,A,rfl,xD,hc⟩:=hr
 have xq:∀ (k:Nat) (c:Cm),cs[k]? = some c→∃ b off,a = some (J b off)∧b < w.heap.size∧w.rangeAt b (off + k * 8) c.vs:=by
  intro k c hk
  obtain ⟨b,off,Q,N,h3⟩:=hc (by intro h; rw [h] at hk; simp at hk)
  exact ⟨b,off,Q,N,h3 k c hk⟩
 have HC:=Y xq
 clear xq hc pM
 have hsf:=sfl
 have ko:=Y (fun W=>countFault_any cs.length xD W)
 have HCZ:=Y (@cntF_zero cs.length)
 have HF:Hid (rsF cs = if cs.length ≤ 200 then { runS cs with t:=wbT (runS cs).t (runS cs).l } else ⟨0,[],[],tot0⟩):=rfl
 generalize rsF cs = qt at HF ⊢
 generalize cntF cs.length = CF at ko HCZ ⊢
 have hbX:=ed w (E #[.slice none 0 0,H 0,.slice none 0 0,H 0,H 0,H 0,H 0,H 0,H 0,H 0,H 0] 35)
 have HX:Hid ((w.alloc (E #[.slice none 0 0,H 0,.slice none 0 0,H 0,H 0,H 0,H 0,H 0,H 0,H 0,H 0] 35)).heap.size = w.heap.size + 1∧World.there (w.alloc (E #[.slice none 0 0,H 0,.slice none 0 0,H 0,H 0,H 0,H 0,H 0,H 0,H 0,H 0] 35)) w.heap.size 0 11):=⟨ze _ _,zu w [.slice none 0 0,H 0,.slice none 0 0,H 0,H 0,H 0,H 0,H 0,H 0,H 0,H 0] 35⟩
 have uB:=Y hbX
 clear hbX
 go_enter Tryz.func5,Tryz.ntmps5
 refine ei fun hR xu=>?_
 go_wp2_with fail
 refine U xu _ _ ?_
 clear xu
 generalize (w.alloc (E #[.slice none 0 0,H 0,.slice none 0 0,H 0,H 0,H 0,H 0,H 0,H 0,H 0,H 0] 35)) = ty at HX uB ⊢
 refine ei fun hR xu=>?_
 go_wp2_with fail
 refine (U ko ty).mono ?_
 rintro e w3 ⟨rfl,hw3⟩
 rw [hw3]
 clear hw3 w3
 by_cases jt:cs.length ≤ 200
 rotate_left
 ·have xB:CF ≠ 0:=fun e=>jt ((U HCZ).1 e)
  have hneb:(CF != 0) = true:=by simpa using xB
  have qK:Hid (qt = ⟨0,[],[],tot0⟩):=(U HF).trans (if_neg jt)
  obtain ⟨y0,z0,q0⟩:=zc (U HX).2 (j:=0) (by omega)
  obtain ⟨y1,z1,q1⟩:=zc (U HX).2 (j:=1) (by omega)
  obtain ⟨y2,z2,q2⟩:=zc (U HX).2 (j:=2) (by omega)
  obtain ⟨y3,z3,q3⟩:=zc (U HX).2 (j:=3) (by omega)
  obtain ⟨y4,z4,q4⟩:=zc (U HX).2 (j:=4) (by omega)
  obtain ⟨y5,z5,q5⟩:=zc (U HX).2 (j:=5) (by omega)
  obtain ⟨y6,z6,q6⟩:=zc (U HX).2 (j:=6) (by omega)
  obtain ⟨y7,z7,q7⟩:=zc (U HX).2 (j:=7) (by omega)
  obtain ⟨y8,z8,q8⟩:=zc (U HX).2 (j:=8) (by omega)
  obtain ⟨y9,z9,q9⟩:=zc (U HX).2 (j:=9) (by omega)
  obtain ⟨y10,z10,q10⟩:=zc (U HX).2 (j:=10) (by omega)
  have xQ:=Y (yX ty w.heap.size 0 [.slice none 0 0,H 0,.slice none 0 0,H 0,H 0,H 0,H 0,H 0,H 0,H 0,H 0] (fun j R=>(U HX).2 j R))
  have vQ:=Y (zm w.heap.size tg [.slice none 0 0,H 0,.slice none 0 0,H 0,H 0,H 0,H 0,H 0,H 0,H 0,H 0] 0 ty (U uB))
  clear HF ko HCZ HC
  go_wp2_with fail
  change bodyPost _ _ _ _ _ (ty.setCells w.heap.size 0 [.slice none 0 0,H 0,.slice none 0 0,H 0,H 0,H 0,H 0,H 0,H 0,H 0,H 0])
  generalize ty.setCells w.heap.size 0 [.slice none 0 0,H 0,.slice none 0 0,H 0,H 0,H 0,H 0,H 0,H 0,H 0,H 0] = WE at xQ vQ ⊢
  obtain rfl:=U qK
  have d0:WE.cell? (yq w 0) = some (.slice none 0 0):=U xQ 0 _ rfl
  have d1:WE.cell? (yq w 1) = some (H 0):=U xQ 1 _ rfl
  have d2:WE.cell? (yq w 2) = some (.slice none 0 0):=U xQ 2 _ rfl
  have d3:WE.cell? (yq w 3) = some (H 0):=U xQ 3 _ rfl
  have d4:WE.cell? (yq w 4) = some (H 0):=U xQ 4 _ rfl
  have d5:WE.cell? (yq w 5) = some (H 0):=U xQ 5 _ rfl
  have d6:WE.cell? (yq w 6) = some (H 0):=U xQ 6 _ rfl
  have d7:WE.cell? (yq w 7) = some (H 0):=U xQ 7 _ rfl
  have d8:WE.cell? (yq w 8) = some (H 0):=U xQ 8 _ rfl
  have d9:WE.cell? (yq w 9) = some (H 0):=U xQ 9 _ rfl
  have d10:WE.cell? (yq w 10) = some (H 0):=U xQ 10 _ rfl
  refine bodyPost_ret (by simp [results,Tryz.results5,go_sem,d0,d1,d2,d3,d4,d5,d6,d7,d8,d9,d10]; try rfl) rfl ?_
  exact ⟨_,_,rfl,⟨[],World.ownsRow_nil _ _ _ _,rfl,(fun i g es hg=>by simp at hg),List.Pairwise.nil⟩,World.ownsRow_nil _ _ _ _,U vQ⟩
 have hz:CF = 0:=(U HCZ).2 jt
 have hzb:(CF != 0) = false:=by rw [hz]; rfl
 have qK:Hid (qt = { runS cs with t:=wbT (runS cs).t (runS cs).l }):=(U HF).trans (if_pos jt)
 have HIV:=Y (cO cs jt)
 subst hz
 clear HF ko HCZ
 go_wp2_with fail
 refine U xu _ _ ?_
 clear xu
 have vr:=ed ty (E #[.slice none 0 0,H 1,.slice none 0 0,H 0,H 0,H 0,H 0,H 0,H 0,H 0,H 0,.slice none 0 0] 49)
 have kf:Hid (EnS ty.heap.size ty.heap.size (ty.alloc (E #[.slice none 0 0,H 1,.slice none 0 0,H 0,H 0,H 0,H 0,H 0,H 0,H 0,H 0,.slice none 0 0] 49)).heap.size (ty.alloc (E #[.slice none 0 0,H 1,.slice none 0 0,H 0,H 0,H 0,H 0,H 0,H 0,H 0,H 0,.slice none 0 0] 49)) (.slice none 0 0) [] [] 1 (.slice none 0 0) [] tot0 (.slice none 0 0) []):=⟨zg ty [.slice none 0 0,H 1,.slice none 0 0,H 0,H 0,H 0,H 0,H 0,H 0,H 0,H 0,.slice none 0 0] _,zu ty [.slice none 0 0,H 1,.slice none 0 0,H 0,H 0,H 0,H 0,H 0,H 0,H 0,H 0,.slice none 0 0] _,World.ownsRow_nil _ _ _ _,rfl,fun i g es hg=>by simp at hg,⟨fun g hg=>by simp at hg,List.Pairwise.nil⟩,World.ownsRow_nil _ _ _ _,World.ownsRow_nil _ _ _ _,⟨_,heap_alloc_new ty _⟩,vr.size,Nat.le_refl _⟩
 have ou:=Y vr
 clear vr
 refine ei fun hR xu=>?_
 go_wp2_with fail
 refine U xu _ _ ?_
 clear xu
 generalize (ty.alloc (E #[.slice none 0 0,H 1,.slice none 0 0,H 0,H 0,H 0,H 0,H 0,H 0,H 0,H 0,.slice none 0 0] 49)) = yb at kf ou ⊢
 refine ei fun hR xu=>?_
 go_wp2_with fail
 go_loopw [20] (fun iv wr=>∃ (k:Nat),k ≤ cs.length∧iv = H k∧Hid ((∃ Bo gv gs vq,EnS ty.heap.size ty.heap.size Bo wr gv gs (runS (cs.take k)).g (runS (cs.take k)).n vq (runS (cs.take k)).l (runS (cs.take k)).t (.slice none 0 0) [])∧KeptBut ty.heap.size ty.heap.size yb wr)) (fun iv _=>cs.length - (intOf iv).toNat)
 case atStart=>exact ⟨0,Nat.zero_le _,rfl,⟨_,_,_,_,U kf⟩,⟨rfl,rfl,rfl,Nat.le_refl _,fun _ _ _=>rfl⟩⟩
 case round =>
  obtain ⟨k,hk,rfl,uu⟩:=hrel
  obtain ⟨⟨Bo,gv,gs,vq,hE⟩,hkb⟩:=U uu
  have HE:=Y hE
  have HKB:=Y hkb
  have xE:=Y (below_keptR ((U uB).trans ((U ou).mono (U uB).size)) hkb (U uB).size (U uB).size)
  clear uu hE hkb
  by_cases xK:k < cs.length
  ·obtain ⟨e,je⟩:∃ e,cs[k]? = some e:=⟨_,yH xK⟩
   obtain ⟨b,off,rfl,L,xo⟩:=U HC k e je
   have qf:=Y (cB cs je)
   have uv:(k:Int) < cs.length:=by omega
   obtain ⟨g0,g1,g2,g3,g4,g5,g6,g7⟩:=cm_cells (zb xo (U xE) L)
   obtain ⟨pd,hi2,hi3,hi4⟩:=U HIV k hk
   have htge:=U qI e (yO je)
   have kX:=(U HE).glen
   have hbA:=ed wr (E (yw e.k e.s e.t e.l e.q e.i e.p e.g).toArray 27)
   have HDO:=Y (doE_any e _ (zN (U HE) hbA) pd.good (by omega) (by omega) htge (by omega))
   have HKA:=Y (zi (U HKB) (zz (mb:=ty.heap.size) (B:=ty.heap.size) hbA (yN (U HE).bo (U HE).le)))
   unfold cmV at HDO
   clear xo L hbA pd hi2 hi3 hi4 htge kX je
   go_wp2_with fail
   refine (U HDO).mono ?_
   rintro r w5 ⟨rfl,⟨Bo5,gv5,gs5,vq5,qN⟩,hk5⟩
   have qd:=Y qN
   have kq:=Y (zi (U HKA) hk5)
   clear qN hk5 HDO g0 g1 g2 g3 g4 g5 g6 g7
   go_wp2_with fail
   go_roundw
   case rel=>exact ⟨k + 1,by omega,by go_num,⟨Bo5,gv5,gs5,vq5,by rw [U qf]; exact U qd⟩,U kq⟩
   case measure=>simp [intOf]; omega
  ·have uv:¬ (k:Int) < cs.length:=by omega
   rw [yZ (by omega)] at HE
   go_wp2_with fail
   refine U xu _ _ ?_
   clear xu xK uv
   have hI:=run_inv cs jt
   generalize runS cs = s at HE qK hI
   obtain ⟨sn,sl,sg,st⟩:=s
   simp only at HE qK hI
   have oM:=hI.1.good.len
   obtain ⟨av,cv,hv⟩:=zR (U HE).orow
   subst hv
   obtain ⟨ga,gc,hgv⟩:=zR (U HE).grow
   subst hgv
   have HRO:=Y (zK (U HE).orow (by omega))
   have jY:=(U HE).lt
   have HWB:=Y (fun V hV=>withBook_any st sn (.slice av sl.length cv) sl V hV)
   generalize wbT st sl = T at HWB qK
   have HT:Hid (wr.rangeAt ty.heap.size 3 st.vs):=fun j u R=>by
    have:=(U HE).cells (3 + j) u (by
     match j,R with
     | 0,R | 1,R | 2,R | 3,R | 4,R | 5,R | 6,R | 7,R=>exact R
     | j + 8,R=>simp [Tot.vs] at R)
    rwa [Nat.zero_add] at this
   have jF:Hid (wr.there ty.heap.size 3 8):=fun j R=>by
    have:=(U HE).there (3 + j) (by omega)
    rwa [Nat.zero_add] at this
   have HM0:Hid (wr.cell? (yq ty 0) = some (.slice ga gs.length gc)):=(U HE).cells 0 _ rfl
   have qe:Hid (wr.cell? (yq ty 1) = some (H sn)):=(U HE).cells 1 _ rfl
   have vD:Hid (wr.cell? (yq ty 2) = some (.slice av sl.length cv)):=(U HE).cells 2 _ rfl
   have vX:Hid (wr.there w.heap.size 0 11):=there_blk (zf (U HX).2 (U ou) (by have:=(U HX).1; omega)) ((U HKB).block _ (by have:=(U HX).1; omega) (by have:=(U HX).1; omega))
   obtain ⟨ue,ud,ug,uh,ui,uf,ut,ur⟩:=T
   simp only at HWB
   have n1:=U qe
   have n2:=U vD
   have n3:wr.cell? (yq ty 3) = some (H st.gr):=U HT 0 _ rfl
   have n4:wr.cell? (yq ty 4) = some (H st.ac):=U HT 1 _ rfl
   have n5:wr.cell? (yq ty 5) = some (H st.rf):=U HT 2 _ rfl
   have n6:wr.cell? (yq ty 6) = some (H st.tr):=U HT 3 _ rfl
   have n7:wr.cell? (yq ty 7) = some (H st.vo):=U HT 4 _ rfl
   have n8:wr.cell? (yq ty 8) = some (H st.no):=U HT 5 _ rfl
   have n9:wr.cell? (yq ty 9) = some (H st.li):=U HT 6 _ rfl
   have pP:wr.cell? (yq ty 10) = some (H st.le):=U HT 7 _ rfl
   refine ei fun hR xu=>?_
   go_wp2_with fail
   refine (U HWB wr (U HRO)).mono ?_
   rintro e V2 ⟨rfl,xZ⟩
   clear n1 n2 n3 n4 n5 n6 n7 n8 n9 pP
   have xG:=zf (U jF) xZ jY
   obtain ⟨y0,z0,q0⟩:=zY xG (j:=0) (by omega)
   obtain ⟨y1,z1,q1⟩:=zY xG (j:=1) (by omega)
   obtain ⟨y2,z2,q2⟩:=zY xG (j:=2) (by omega)
   obtain ⟨y3,z3,q3⟩:=zY xG (j:=3) (by omega)
   obtain ⟨y4,z4,q4⟩:=zY xG (j:=4) (by omega)
   obtain ⟨y5,z5,q5⟩:=zY xG (j:=5) (by omega)
   obtain ⟨y6,z6,q6⟩:=zY xG (j:=6) (by omega)
   obtain ⟨y7,z7,q7⟩:=zY xG (j:=7) (by omega)
   clear xG
   have vj:=Y xZ
   clear xZ
   go_wp2_with fail
   refine U xu _ _ ?_
   clear xu z0 q0 z1 q1 z2 q2 z3 q3 z4 q4 z5 q5 z6 q6 z7 q7
   change Code.wp _ _ _ _ (V2.setCells ty.heap.size 3 (Tot.mk ue ud ug uh ui uf ut ur).vs)
   have xZ:=U vj
   generalize eV':V2.setCells ty.heap.size 3 (Tot.mk ue ud ug uh ui uf ut ur).vs = V
   have eV:=eV'.symm
   clear eV'
   have xF:=Y xZ
   have vJ:=Y eV
   have kK:ty.heap.size < V2.heap.size:=yJ jY xZ.size
   have HC0:Hid (∀ j u,j < 3→wr.cell? (yq ty j) = some u→V.cell? (yq ty j) = some u):=fun j u R hu=>by
    rw [eV]
    refine (World.cell?_setCells_out ty.heap.size _ 3 V2 (yq ty j) (fun _ _=>.inl R)).trans ?_
    exact (xZ.cell (p:=(yq ty j)) jY).trans hu
   have jb:Hid (V.rangeAt ty.heap.size 3 (Tot.mk ue ud ug uh ui uf ut ur).vs):=by
    rw [eV]
    exact yX V2 ty.heap.size 3 _ (fun j R=>by
     have:=zf (U jF) xZ jY j (by simpa [Tot.vs] using R)
     exact this)
   have qw:Hid (V.there w.heap.size 0 11):=by
    rw [eV]
    exact there_blk (zf (U vX) xZ (by have:=(U HX).1; omega)) (cU ty.heap.size w.heap.size (by have:=(U HX).1; omega) _ 3 V2)
   have xB:w.heap.size ≠ ty.heap.size:=by have:=(U HX).1; omega
   have xv:Hid (yn w V):=by
    rw [eV]
    exact zm ty.heap.size (U uB).size _ 3 V2 (eh (U xE) xZ)
   clear eV xZ
   have m0:=U HC0 0 _ (by omega) (U HM0)
   have m1:=U HC0 1 _ (by omega) (U qe)
   have m2:=U HC0 2 _ (by omega) (U vD)
   have m3:V.cell? (yq ty 3) = some (H ue):=U jb 0 _ rfl
   have m4:V.cell? (yq ty 4) = some (H ud):=U jb 1 _ rfl
   have m5:V.cell? (yq ty 5) = some (H ug):=U jb 2 _ rfl
   have m6:V.cell? (yq ty 6) = some (H uh):=U jb 3 _ rfl
   have m7:V.cell? (yq ty 7) = some (H ui):=U jb 4 _ rfl
   have m8:V.cell? (yq ty 8) = some (H uf):=U jb 5 _ rfl
   have m9:V.cell? (yq ty 9) = some (H ut):=U jb 6 _ rfl
   have m10:V.cell? (yq ty 10) = some (H ur):=U jb 7 _ rfl
   obtain ⟨y0,z0,q0⟩:=zc (U qw) (j:=0) (by omega)
   obtain ⟨y1,z1,q1⟩:=zc (U qw) (j:=1) (by omega)
   obtain ⟨y2,z2,q2⟩:=zc (U qw) (j:=2) (by omega)
   obtain ⟨y3,z3,q3⟩:=zc (U qw) (j:=3) (by omega)
   obtain ⟨y4,z4,q4⟩:=zc (U qw) (j:=4) (by omega)
   obtain ⟨y5,z5,q5⟩:=zc (U qw) (j:=5) (by omega)
   obtain ⟨y6,z6,q6⟩:=zc (U qw) (j:=6) (by omega)
   obtain ⟨y7,z7,q7⟩:=zc (U qw) (j:=7) (by omega)
   obtain ⟨y8,z8,q8⟩:=zc (U qw) (j:=8) (by omega)
   obtain ⟨y9,z9,q9⟩:=zc (U qw) (j:=9) (by omega)
   obtain ⟨y10,z10,q10⟩:=zc (U qw) (j:=10) (by omega)
   have xQ:=Y (yX V w.heap.size 0 [.slice ga gs.length gc,H sn,.slice av sl.length cv,H ue,H ud,H ug,H uh,H ui,H uf,H ut,H ur] (fun j R=>U qw j R))
   have vQ:=Y (zm w.heap.size tg [.slice ga gs.length gc,H sn,.slice av sl.length cv,H ue,H ud,H ug,H uh,H ui,H uf,H ut,H ur] 0 V (U xv))
   have vL:Hid (∀ {e sz n:Nat} {v:Value} {xs:List Value},wr.ownsRow ty.heap.size e sz v n xs→49 ≠ e→World.ownsRow (V.setCells w.heap.size 0 [.slice ga gs.length gc,H sn,.slice av sl.length cv,H ue,H ud,H ug,H uh,H ui,H uf,H ut,H ur]) w.heap.size e sz v n xs):=fun {e sz n v xs} h hne'=>by
    rw [U vJ]
    exact row_end h (zj h (U HE).box hne') (U xF) (by have:=(U HX).1; omega) (U uB).size _ _ _ _
   have HG:Hid (GRa (V.setCells w.heap.size 0 [.slice ga gs.length gc,H sn,.slice av sl.length cv,H ue,H ud,H ug,H uh,H ui,H uf,H ut,H ur]) w.heap.size (.slice ga gs.length gc) sg):=⟨gs,U vL (U HE).grow (by decide),(U HE).glen,fun i g es hg vi=>U vL ((U HE).geach i g es hg vi) (by decide),(U HE).glt.2⟩
   have HO:Hid (ORow (V.setCells w.heap.size 0 [.slice ga gs.length gc,H sn,.slice av sl.length cv,H ue,H ud,H ug,H uh,H ui,H uf,H ut,H ur]) w.heap.size (.slice av sl.length cv) sl):=U vL (U HE).orow (by decide)
   clear vL
   go_wp2_with fail
   change bodyPost _ _ _ _ _ (V.setCells w.heap.size 0 [.slice ga gs.length gc,H sn,.slice av sl.length cv,H ue,H ud,H ug,H uh,H ui,H uf,H ut,H ur])
   generalize V.setCells w.heap.size 0 [.slice ga gs.length gc,H sn,.slice av sl.length cv,H ue,H ud,H ug,H uh,H ui,H uf,H ut,H ur] = WE at xQ vQ HG HO ⊢
   obtain rfl:=U qK
   have d0:WE.cell? (yq w 0) = some (.slice ga gs.length gc):=U xQ 0 _ rfl
   have d1:WE.cell? (yq w 1) = some (H sn):=U xQ 1 _ rfl
   have d2:WE.cell? (yq w 2) = some (.slice av sl.length cv):=U xQ 2 _ rfl
   have d3:WE.cell? (yq w 3) = some (H ue):=U xQ 3 _ rfl
   have d4:WE.cell? (yq w 4) = some (H ud):=U xQ 4 _ rfl
   have d5:WE.cell? (yq w 5) = some (H ug):=U xQ 5 _ rfl
   have d6:WE.cell? (yq w 6) = some (H uh):=U xQ 6 _ rfl
   have d7:WE.cell? (yq w 7) = some (H ui):=U xQ 7 _ rfl
   have d8:WE.cell? (yq w 8) = some (H uf):=U xQ 8 _ rfl
   have d9:WE.cell? (yq w 9) = some (H ut):=U xQ 9 _ rfl
   have d10:WE.cell? (yq w 10) = some (H ur):=U xQ 10 _ rfl
   refine bodyPost_ret (by simp [results,Tryz.results5,go_sem,d0,d1,d2,d3,d4,d5,d6,d7,d8,d9,d10]; try rfl) rfl ?_
   exact ⟨_,_,rfl,U HG,U HO,U vQ⟩
def livS (l:List Od):Int:=l.foldl (fun n o=>wrap64 (n + o.left)) 0
theorem liv_step (l:List Od) {k:Nat} {o:Od} (h:l[k]? = some o):livS (l.take (k + 1)) = wrap64 (livS (l.take k) + o.left):=by
 unfold livS
 rw [List.take_add_one,h,List.foldl_append]; rfl
theorem l04Live_any (next:Int) (v:Value) (l:List Od) (w:World) (hr:RdR Od.vs 6 w v l) :
  Calls Tryz.prog 66 #[.agg #[H next,v]] w fun r w'=>r = ym (.tuple #[H l.length,H (livS l)])∧yn w w':=by
 obtain ⟨a,A,rfl,xD,hc⟩:=hr
 have xq:∀ (k:Nat) (c:Od),l[k]? = some c→∃ b off,a = some (J b off)∧b < w.heap.size∧w.rangeAt b (off + k * 6) c.vs:=by
  intro k c hk
  obtain ⟨b,off,Q,N,h3⟩:=hc (by intro h; rw [h] at hk; simp at hk)
  exact ⟨b,off,Q,N,h3 k c hk⟩
 have HC:=Y xq
 clear xq hc
 have b1:=ed w (E #[H next,.slice a l.length A] 31)
 have HX:Hid (_∧_∧_):=⟨zg w [H next,.slice a l.length A] 31,b1,ze w (E #[H next,.slice a l.length A] 31)⟩
 clear b1
 go_enter Tryz.func66,Tryz.ntmps66
 refine ei fun hR xu=>?_
 go_wp2_with fail
 refine U xu _ _ ?_
 clear xu
 change Hid (World.rangeAt (w.alloc (E #[H next,.slice a l.length A] 31)) w.heap.size 0 [H next,.slice a l.length A]∧yn w (w.alloc (E #[H next,.slice a l.length A] 31))∧(w.alloc (E #[H next,.slice a l.length A] 31)).heap.size = w.heap.size + 1) at HX
 generalize (w.alloc (E #[H next,.slice a l.length A] 31)) = ty at HX ⊢
 have c1:ty.cell? (yq w 1) = some (.slice a l.length A):=(U HX).1 1 _ rfl
 go_wp2_with fail
 go_loopw [4,5] (fun nv iv wr=>wr = ty∧∃ (k:Nat),k ≤ l.length∧iv = H k∧∃ n:Int,nv = H n∧Hid (n = livS (l.take k))) (fun _ iv _=>l.length - (intOf iv).toNat)
 case atStart=>exact ⟨rfl,0,Nat.zero_le _,rfl,0,rfl,rfl⟩
 case round =>
  obtain ⟨rfl,k,hk,rfl,n,rfl,hn⟩:=hrel
  by_cases xK:k < l.length
  ·obtain ⟨e,je⟩:∃ e,l[k]? = some e:=⟨_,yH xK⟩
   obtain ⟨b,off,rfl,L,xo⟩:=U HC k e je
   have qf:=Y (liv_step l je)
   have uv:(k:Int) < l.length:=by omega
   obtain ⟨g0,g1,g2,g3,g4,g5⟩:=zC (zb xo (U HX).2.1 L)
   clear je xo L
   go_wp2_with fail
   go_roundw
   case rel=>exact ⟨trivial,k + 1,by omega,by go_num,_,rfl,Y (by rw [U qf,U hn])⟩
   case measure=>simp [intOf]; omega
  ·have uv:¬ (k:Int) < l.length:=by omega
   rw [yZ (by omega)] at hn
   have HB:=Y (U HX).2.1
   clear HX
   go_wp2_with fail
   try simp only [Exit.inBlock,Exit.then]
   refine bodyPost_ret (by simp [results,Tryz.results66,go_sem]; try rfl) rfl ?_
   exact ⟨by rw [U hn],U HB⟩
def cntM (t:Tot) (e:Ev):Tot :=
 if e.kind = 1 then { t with ac:=wrap64 (t.ac + 1) } else if e.kind = 2 then { t with rf:=wrap64 (t.rf + 1) }
 else if e.kind = 3 then { t with tr:=wrap64 (t.tr + 1),vo:=wrap64 (t.vo + e.qty),no:=wrap64 (t.no + wrap64 (e.qty * e.price)),le:=wrap64 (t.le - e.qty) }
 else if e.kind = 4 then { t with li:=wrap64 (t.li + 1),le:=wrap64 (t.le + e.qty) } else t
theorem l04Count_any (t:Tot) (e:Ev) (w:World) :
  Calls Tryz.prog 65 #[.agg #[H t.gr,H t.ac,H t.rf,H t.tr,H t.vo,H t.no,H t.li,H t.le],.agg (yu e.kind e.cmd.k e.cmd.s e.cmd.t e.cmd.l e.cmd.q e.cmd.i e.cmd.p e.cmd.g e.id e.other e.qty e.price e.reason).toArray] w fun r w'=>r = ym (.agg #[H (cntM t e).gr,H (cntM t e).ac,H (cntM t e).rf,H (cntM t e).tr,H (cntM t e).vo,H (cntM t e).no,H (cntM t e).li,H (cntM t e).le])∧yn w w':=by
 have HM:Hid (cntM t e = if e.kind = 1 then { t with ac:=wrap64 (t.ac + 1) } else if e.kind = 2 then { t with rf:=wrap64 (t.rf + 1) }
  else if e.kind = 3 then { t with tr:=wrap64 (t.tr + 1),vo:=wrap64 (t.vo + e.qty),no:=wrap64 (t.no + wrap64 (e.qty * e.price)),le:=wrap64 (t.le - e.qty) }
  else if e.kind = 4 then { t with li:=wrap64 (t.li + 1),le:=wrap64 (t.le + e.qty) } else t):=rfl
 generalize cntM t e = yl at HM ⊢
 obtain ⟨ue,ud,ug,uh,ui,uf,ut,ur⟩:=t
 simp only at HM ⊢
 have hsf:=sfl
 have xA:=ze w (E #[H ue,H ud,H ug,H uh,H ui,H uf,H ut,H ur] 33)
 have uc:((w.alloc (E #[H ue,H ud,H ug,H uh,H ui,H uf,H ut,H ur] 33)).alloc (E (yu e.kind e.cmd.k e.cmd.s e.cmd.t e.cmd.l e.cmd.q e.cmd.i e.cmd.p e.cmd.g e.id e.other e.qty e.price e.reason).toArray 41)).heap.size = w.heap.size + 1 + 1:=by rw [ze,xA]
 have qG:(((w.alloc (E #[H ue,H ud,H ug,H uh,H ui,H uf,H ut,H ur] 33)).alloc (E (yu e.kind e.cmd.k e.cmd.s e.cmd.t e.cmd.l e.cmd.q e.cmd.i e.cmd.p e.cmd.g e.id e.other e.qty e.price e.reason).toArray 41)).alloc (E #[H 0,H 0,H 0,H 0,H 0,H 0,H 0,H 0] 33)).heap.size = w.heap.size + 1 + 1 + 1:=by rw [ze,uc]
 have r1:=zg w [H ue,H ud,H ug,H uh,H ui,H uf,H ut,H ur] 33
 have t1:=zu w [H ue,H ud,H ug,H uh,H ui,H uf,H ut,H ur] 33
 have r2:=zg (w.alloc (E #[H ue,H ud,H ug,H uh,H ui,H uf,H ut,H ur] 33)) (yu e.kind e.cmd.k e.cmd.s e.cmd.t e.cmd.l e.cmd.q e.cmd.i e.cmd.p e.cmd.g e.id e.other e.qty e.price e.reason) 41
 have t3:=zu ((w.alloc (E #[H ue,H ud,H ug,H uh,H ui,H uf,H ut,H ur] 33)).alloc (E (yu e.kind e.cmd.k e.cmd.s e.cmd.t e.cmd.l e.cmd.q e.cmd.i e.cmd.p e.cmd.g e.id e.other e.qty e.price e.reason).toArray 41)) [H 0,H 0,H 0,H 0,H 0,H 0,H 0,H 0] 33
 rw [uc] at t3
 rw [xA] at r2
 have b1:=ed w (E #[H ue,H ud,H ug,H uh,H ui,H uf,H ut,H ur] 33)
 have b2:Below (w.heap.size + 1) (w.alloc (E #[H ue,H ud,H ug,H uh,H ui,H uf,H ut,H ur] 33)) ((w.alloc (E #[H ue,H ud,H ug,H uh,H ui,H uf,H ut,H ur] 33)).alloc (E (yu e.kind e.cmd.k e.cmd.s e.cmd.t e.cmd.l e.cmd.q e.cmd.i e.cmd.p e.cmd.g e.id e.other e.qty e.price e.reason).toArray 41)):=(Below.refl _ _).alloc (by omega) _
 have b3:Below (w.heap.size + 1 + 1) ((w.alloc (E #[H ue,H ud,H ug,H uh,H ui,H uf,H ut,H ur] 33)).alloc (E (yu e.kind e.cmd.k e.cmd.s e.cmd.t e.cmd.l e.cmd.q e.cmd.i e.cmd.p e.cmd.g e.id e.other e.qty e.price e.reason).toArray 41)) (((w.alloc (E #[H ue,H ud,H ug,H uh,H ui,H uf,H ut,H ur] 33)).alloc (E (yu e.kind e.cmd.k e.cmd.s e.cmd.t e.cmd.l e.cmd.q e.cmd.i e.cmd.p e.cmd.g e.id e.other e.qty e.price e.reason).toArray 41)).alloc (E #[H 0,H 0,H 0,H 0,H 0,H 0,H 0,H 0] 33)):=(Below.refl _ _).alloc (by omega) _
 have HX:Hid (_∧_∧_∧_∧_):=⟨zb (zb r1 b2 (by omega)) b3 (by omega),zf (zf t1 b2 (by omega)) b3 (by omega),t3,(b1.trans (b2.mono (by omega))).trans (b3.mono (by omega)),Nat.le_of_eq qG.symm⟩
 have vJ:=Y (zb r2 b3 (by omega))
 clear xA uc qG r1 r2 t1 t3 b1 b2 b3
 go_enter Tryz.func65,Tryz.ntmps65
 refine ei fun hR xu=>?_
 go_wp2_with fail
 refine U xu _ _ ?_
 clear xu
 generalize (((w.alloc (E #[H ue,H ud,H ug,H uh,H ui,H uf,H ut,H ur] 33)).alloc (E (yu e.kind e.cmd.k e.cmd.s e.cmd.t e.cmd.l e.cmd.q e.cmd.i e.cmd.p e.cmd.g e.id e.other e.qty e.price e.reason).toArray 41)).alloc (E #[H 0,H 0,H 0,H 0,H 0,H 0,H 0,H 0] 33)) = ty at HX vJ ⊢
 have HX:Hid (ty.rangeAt w.heap.size 0 [H ue,H ud,H ug,H uh,H ui,H uf,H ut,H ur]∧ty.there w.heap.size 0 8∧ty.there (w.heap.size + 1 + 1) 0 8∧yn w ty∧w.heap.size + 1 + 1 + 1 ≤ ty.heap.size):=U HX
 obtain ⟨g0,g1,g2,g3,g4,g5,g6,g7,g8,g9,qC,vF,ua,ku⟩:=cz (U vJ)
 clear g1 g2 g3 g4 g5 g6 g7 g8 g9 qC ku vJ
 simp only [Nat.zero_add] at vF ua
 have d0:ty.cell? (yq w 0) = some (H ue):=(U HX).1 0 _ rfl
 have p0:ty.frozen? (yq w 0) = false:=by have:=((U HX).2.1 0 (by omega)).2; rwa [Nat.zero_add] at this
 have d1:ty.cell? (yq w 1) = some (H ud):=(U HX).1 1 _ rfl
 have p1:ty.frozen? (yq w 1) = false:=by have:=((U HX).2.1 1 (by omega)).2; rwa [Nat.zero_add] at this
 have d2:ty.cell? (yq w 2) = some (H ug):=(U HX).1 2 _ rfl
 have p2:ty.frozen? (yq w 2) = false:=by have:=((U HX).2.1 2 (by omega)).2; rwa [Nat.zero_add] at this
 have d3:ty.cell? (yq w 3) = some (H uh):=(U HX).1 3 _ rfl
 have p3:ty.frozen? (yq w 3) = false:=by have:=((U HX).2.1 3 (by omega)).2; rwa [Nat.zero_add] at this
 have d4:ty.cell? (yq w 4) = some (H ui):=(U HX).1 4 _ rfl
 have p4:ty.frozen? (yq w 4) = false:=by have:=((U HX).2.1 4 (by omega)).2; rwa [Nat.zero_add] at this
 have d5:ty.cell? (yq w 5) = some (H uf):=(U HX).1 5 _ rfl
 have p5:ty.frozen? (yq w 5) = false:=by have:=((U HX).2.1 5 (by omega)).2; rwa [Nat.zero_add] at this
 have d6:ty.cell? (yq w 6) = some (H ut):=(U HX).1 6 _ rfl
 have p6:ty.frozen? (yq w 6) = false:=by have:=((U HX).2.1 6 (by omega)).2; rwa [Nat.zero_add] at this
 have d7:ty.cell? (yq w 7) = some (H ur):=(U HX).1 7 _ rfl
 have p7:ty.frozen? (yq w 7) = false:=by have:=((U HX).2.1 7 (by omega)).2; rwa [Nat.zero_add] at this
 refine ei fun hR xu=>?_
 have HT:Hid (∀ (V:World) (T:Tot) (u5 u6 u7 u8 u9 u10 u11 u12 u13 u14 u15 u16 u17 u18 u19 u20 u21 u22 u23 u24 u25 u26 u27 u28 u29 u30 u31 u32 u33 u34 u35 u36 u37 u38 u39 u40 u41 u42 u43 u44 u45 u46 u47 u48 u49 u50 u51 u52 u53 u54 u55 u56 u57:Value),yl = T→(V.rangeAt w.heap.size 0 T.vs∧V.there w.heap.size 0 8∧V.there (w.heap.size + 1 + 1) 0 8∧yn w V∧w.heap.size + 1 + 1 + 1 ≤ V.heap.size)→hR { tmps:=#[.agg #[H ue,H ud,H ug,H uh,H ui,H uf,H ut,H ur],.agg (yu e.kind e.cmd.k e.cmd.s e.cmd.t e.cmd.l e.cmd.q e.cmd.i e.cmd.p e.cmd.g e.id e.other e.qty e.price e.reason).toArray,yp w 0,I (w.heap.size + 1) 0,I (w.heap.size + 1 + 1) 0,u5,u6,u7,u8,u9,u10,u11,u12,u13,u14,u15,u16,u17,u18,u19,u20,u21,u22,u23,u24,u25,u26,u27,u28,u29,u30,u31,u32,u33,u34,u35,u36,u37,u38,u39,u40,u41,u42,u43,u44,u45,u46,u47,u48,u49,u50,u51,u52,u53,u54,u55,u56,u57,M],defers:=[] } V):=by
  intro V T u5 u6 u7 u8 u9 u10 u11 u12 u13 u14 u15 u16 u17 u18 u19 u20 u21 u22 u23 u24 u25 u26 u27 u28 u29 u30 u31 u32 u33 u34 u35 u36 u37 u38 u39 u40 u41 u42 u43 u44 u45 u46 u47 u48 u49 u50 u51 u52 u53 u54 u55 u56 u57 hMT uu
  have HY:=Y uu
  have oj:=Y hMT
  clear uu hMT HM HX g0 vF ua d0 p0 d1 p1 d2 p2 d3 p3 d4 p4 d5 p5 d6 p6 d7 p7
  obtain ⟨agr,aac,arf,atr,avo,ano,ali,ale⟩:=T
  have c0:V.cell? (yq w 0) = some (H agr):=(U HY).1 0 _ rfl
  obtain ⟨y0,z0,q0⟩:=zc (U HY).2.2.1 (j:=0) (by omega)
  have c1:V.cell? (yq w 1) = some (H aac):=(U HY).1 1 _ rfl
  obtain ⟨y1,z1,q1⟩:=zc (U HY).2.2.1 (j:=1) (by omega)
  have c2:V.cell? (yq w 2) = some (H arf):=(U HY).1 2 _ rfl
  obtain ⟨y2,z2,q2⟩:=zc (U HY).2.2.1 (j:=2) (by omega)
  have c3:V.cell? (yq w 3) = some (H atr):=(U HY).1 3 _ rfl
  obtain ⟨y3,z3,q3⟩:=zc (U HY).2.2.1 (j:=3) (by omega)
  have c4:V.cell? (yq w 4) = some (H avo):=(U HY).1 4 _ rfl
  obtain ⟨y4,z4,q4⟩:=zc (U HY).2.2.1 (j:=4) (by omega)
  have c5:V.cell? (yq w 5) = some (H ano):=(U HY).1 5 _ rfl
  obtain ⟨y5,z5,q5⟩:=zc (U HY).2.2.1 (j:=5) (by omega)
  have c6:V.cell? (yq w 6) = some (H ali):=(U HY).1 6 _ rfl
  obtain ⟨y6,z6,q6⟩:=zc (U HY).2.2.1 (j:=6) (by omega)
  have c7:V.cell? (yq w 7) = some (H ale):=(U HY).1 7 _ rfl
  obtain ⟨y7,z7,q7⟩:=zc (U HY).2.2.1 (j:=7) (by omega)
  have xQ:=Y (yX V (w.heap.size + 1 + 1) 0 [H agr,H aac,H arf,H atr,H avo,H ano,H ali,H ale] (fun j R=>(U HY).2.2.1 j R))
  have vQ:=Y (zm (w.heap.size + 1 + 1) (by omega) [H agr,H aac,H arf,H atr,H avo,H ano,H ali,H ale] 0 V (U HY).2.2.2.1)
  refine U xu _ _ ?_
  clear xu
  go_wp2_with fail
  change bodyPost _ _ _ _ _ (V.setCells (w.heap.size + 1 + 1) 0 [H agr,H aac,H arf,H atr,H avo,H ano,H ali,H ale])
  generalize V.setCells (w.heap.size + 1 + 1) 0 [H agr,H aac,H arf,H atr,H avo,H ano,H ali,H ale] = WE at xQ vQ ⊢
  obtain ⟨d0,d1,d2,d3,d4,d5,d6,d7⟩:=yD (U xQ)
  refine bodyPost_ret (by simp [results,Tryz.results65,go_sem,d0,d1,d2,d3,d4,d5,d6,d7]; try rfl) rfl ?_
  exact ⟨by rw [U oj],U vQ⟩
 clear xu
 by_cases Q:e.kind = 1
 ·have b1:(e.kind == 1) = true:=by simpa using Q
  have HE:=Y ((U HM).trans (if_pos Q))
  clear HM Q
  go_wp2_with fail
  exact U HT _ (Tot.mk ue (wrap64 (ud + 1)) ug uh ui uf ut ur) _ _ _ _ _ _ _ _ _ _ _ _ _ _ _ _ _ _ _ _ _ _ _ _ _ _ _ _ _ _ _ _ _ _ _ _ _ _ _ _ _ _ _ _ _ _ _ _ _ _ _ _ _ (U HE) (keepB (U HX) 1 (by simp) _)
 have b1:(e.kind == 1) = false:=by rw [xd]; exact Q
 by_cases N:e.kind = 2
 ·have b2:(e.kind == 2) = true:=by simpa using N
  have HE:=Y ((U HM).trans ((if_neg Q).trans (if_pos N)))
  clear HM Q N
  go_wp2_with fail
  exact U HT _ (Tot.mk ue ud (wrap64 (ug + 1)) uh ui uf ut ur) _ _ _ _ _ _ _ _ _ _ _ _ _ _ _ _ _ _ _ _ _ _ _ _ _ _ _ _ _ _ _ _ _ _ _ _ _ _ _ _ _ _ _ _ _ _ _ _ _ _ _ _ _ (U HE) (keepB (U HX) 2 (by simp) _)
 have b2:(e.kind == 2) = false:=by rw [xd]; exact N
 by_cases h3:e.kind = 3
 ·have b3:(e.kind == 3) = true:=by simpa using h3
  have HE:=Y ((U HM).trans ((if_neg Q).trans ((if_neg N).trans (if_pos h3))))
  clear HM Q N h3
  go_wp2_with fail
  exact U HT _ (Tot.mk ue ud ug (wrap64 (uh + 1)) (wrap64 (ui + e.qty)) (wrap64 (uf + wrap64 (e.qty * e.price))) ut (wrap64 (ur - e.qty))) _ _ _ _ _ _ _ _ _ _ _ _ _ _ _ _ _ _ _ _ _ _ _ _ _ _ _ _ _ _ _ _ _ _ _ _ _ _ _ _ _ _ _ _ _ _ _ _ _ _ _ _ _ (U HE) (keepB (keepB (keepB (keepB (U HX) 3 (by simp) _) 4 (by simp) _) 5 (by simp) _) 7 (by simp) _)
 have b3:(e.kind == 3) = false:=by rw [xd]; exact h3
 by_cases h4:e.kind = 4
 ·have b4:(e.kind == 4) = true:=by simpa using h4
  have HE:=Y ((U HM).trans ((if_neg Q).trans ((if_neg N).trans ((if_neg h3).trans (if_pos h4)))))
  clear HM Q N h3 h4
  go_wp2_with fail
  exact U HT _ (Tot.mk ue ud ug uh ui uf (wrap64 (ut + 1)) (wrap64 (ur + e.qty))) _ _ _ _ _ _ _ _ _ _ _ _ _ _ _ _ _ _ _ _ _ _ _ _ _ _ _ _ _ _ _ _ _ _ _ _ _ _ _ _ _ _ _ _ _ _ _ _ _ _ _ _ _ (U HE) (keepB (keepB (U HX) 6 (by simp) _) 7 (by simp) _)
 have b4:(e.kind == 4) = false:=by rw [xd]; exact h4
 have HE:=Y ((U HM).trans ((if_neg Q).trans ((if_neg N).trans ((if_neg h3).trans (if_neg h4)))))
 clear HM Q N h3 h4
 go_wp2_with fail
 exact U HT _ (Tot.mk ue ud ug uh ui uf ut ur) _ _ _ _ _ _ _ _ _ _ _ _ _ _ _ _ _ _ _ _ _ _ _ _ _ _ _ _ _ _ _ _ _ _ _ _ _ _ _ _ _ _ _ _ _ _ _ _ _ _ _ _ _ (U HE) (U HX)
end Go.Proofs.YtdliebbfcmdmaaaGreat
