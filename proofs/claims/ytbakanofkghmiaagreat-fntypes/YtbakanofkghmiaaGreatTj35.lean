/-
  RunScript by the program: proved by walking the function.
-/
import Derived.Test.YtbakanofkghmiaaGreatTj34
set_option linter.unusedVariables false
set_option maxHeartbeats 6400000
set_option maxRecDepth 100000
namespace Go.Proofs.YtbakanofkghmiaaGreat
open Go.RowKit
section
variable {C:Nat→Value→Prop} {mb:Nat} {tv:List Value} {base W W':World} {x:List Bool} {f:Nat→Value}
end
theorem below_keptR {mb B:Nat} {w yb W:World} (Q:ym w yb) (N:KeptBut mb B yb W) (hB:w.heap.size ≤ B) (hm:w.heap.size ≤ mb):ym w W :=
 ⟨N.os.trans Q.os,N.tape.trans Q.tape,N.output.trans Q.output,yL Q.size N.size,fun k hk=>(N.block k (by omega) (by omega)).trans (Q.block k hk)⟩
theorem row_end {e sz n mb hj B C:Nat} {v:Value} {xs:List Value} {W V2:World} (h:W.ownsRow B e sz v n xs) (hm:some mb ≠ v.ownBlock) (F:ym W V2) (A:hj < B) (hC:C ≤ B) (us vs:List Value) (o1 o2:Nat):((V2.setCells mb o1 us).setCells hj o2 vs).ownsRow C e sz v n xs:=by
 have Q:V2.ownsRow B e sz v n xs:=World.ownsRow.kept (row:=none) h (pX F qt) (by cases v.ownBlock <;> simp)
 have N:=bp hm us o1 V2 Q
 have h3:=bp (b:=hj) (fun e'=>by have:=(h.lt hj e'.symm).1; omega) vs o2 _ N
 refine ⟨h3.1,?_⟩
 rcases h3.2 with k1 | ⟨g',c',xp,k1,k2,k3⟩
 ·exact .inl k1
 ·exact .inr ⟨g',c',xp,k1,yL hC k2,k3⟩
structure GRs (W:World) (B:Nat) (gv:Value) (gl:List (List Ev)):Prop where
 ex:∃ gs:List Value,GRow W B gv gs∧gs.length = gl.length∧∀ (i:Nat) (g:Value) (es:List Ev),gs[i]? = some g→gl[i]? = some es→ERow W B g es
structure GRa (W:World) (B:Nat) (gv:Value) (gl:List (List Ev)):Prop where
 ex:∃ gs:List Value,GRow W B gv gs∧gs.length = gl.length∧(∀ (i:Nat) (g:Value) (es:List Ev),gs[i]? = some g→gl[i]? = some es→ERow W B g es)∧gs.Pairwise fun g g'=>∀ b b',g.ownBlock = some b→g'.ownBlock = some b'→b < b'
theorem implRunScript_any (v:Value) (cs:List Cm) (w:World) (hr:RdR Cm.vs 8 w v cs) (oL:∀ c ∈ cs,c.g.size ≤ maxLen) :
  Calls Tryz.prog 10 #[v] w fun e w'=>∃ gv vq,e = yl (.tuple #[.agg #[gv,H (rsF cs).n,vq,H (rsF cs).t.gr,H (rsF cs).t.ac,H (rsF cs).t.rf,H (rsF cs).t.tr,H (rsF cs).t.vo,H (rsF cs).t.no,H (rsF cs).t.li,H (rsF cs).t.le],H (cntF cs.length)])∧GRa w' w.heap.size gv (rsF cs).g∧ORow w' w.heap.size vq (rsF cs).l∧ym w w':=by
 have HR:=Y hr
 have qF:=Y oL
 obtain ⟨a,E,rfl,xB,hc⟩:=hr
 have xo:∀ (k:Nat) (c:Cm),cs[k]? = some c→∃ b off,a = some (J b off)∧b < w.heap.size∧w.rangeAt b (off + k * 8) c.vs:=by
  intro k c hk
  obtain ⟨b,off,Q,N,h3⟩:=hc (by intro h; rw [h] at hk; simp at hk)
  exact ⟨b,off,Q,N,h3 k c hk⟩
 have HC:=Y xo
 clear xo hc oL
 have hsf:=sfl
 have HCF:=Y (fun W=>countFault_any cs.length xB W)
 have HCZ:=Y (@cntF_zero cs.length)
 have HF:Hid (rsF cs = if cs.length ≤ 200 then { runS cs with t:=wbT (runS cs).t (runS cs).l } else ⟨0,[],[],tot0⟩):=rfl
 generalize rsF cs = hb at HF ⊢
 generalize cntF cs.length = CF at HCF HCZ ⊢
 have hbX:=dm w (D #[.slice none 0 0,H 0,.slice none 0 0,H 0,H 0,H 0,H 0,H 0,H 0,H 0,H 0] 32)
 have HX:Hid ((w.alloc (D #[.slice none 0 0,H 0,.slice none 0 0,H 0,H 0,H 0,H 0,H 0,H 0,H 0,H 0] 32)).heap.size = w.heap.size + 1∧World.there (w.alloc (D #[.slice none 0 0,H 0,.slice none 0 0,H 0,H 0,H 0,H 0,H 0,H 0,H 0,H 0] 32)) w.heap.size 0 11):=⟨zf _ _,zt w [.slice none 0 0,H 0,.slice none 0 0,H 0,H 0,H 0,H 0,H 0,H 0,H 0,H 0] 32⟩
 have uv:=Y hbX
 clear hbX
 go_enter Tryz.func10,Tryz.ntmps10
 refine ds fun tg xq=>?_
 go_wp2_with fail
 refine U xq _ _ ?_
 clear xq
 generalize (w.alloc (D #[.slice none 0 0,H 0,.slice none 0 0,H 0,H 0,H 0,H 0,H 0,H 0,H 0,H 0] 32)) = hD at HX uv ⊢
 refine ds fun tg xq=>?_
 go_wp2_with fail
 refine (U HCF hD).mono ?_
 rintro e w3 ⟨rfl,hw3⟩
 rw [hw3]
 clear hw3 w3
 by_cases jk:cs.length ≤ 200
 rotate_left
 ·have xA:CF ≠ 0:=fun e=>jk ((U HCZ).1 e)
  have hneb:(CF != 0) = true:=by simpa using xA
  have qC:Hid (hb = ⟨0,[],[],tot0⟩):=(U HF).trans (if_neg jk)
  obtain ⟨y0,z0,q0⟩:=zc (U HX).2 (j:=0) (by omega)
  obtain ⟨y1,z1,q1⟩:=zc (U HX).2 (j:=1) (by omega)
  obtain ⟨y2,z2,q2⟩:=zc (U HX).2 (j:=2) (by omega)
  obtain ⟨y3,z3,q3⟩:=zc (U HX).2 (j:=3) (by omega)
  obtain ⟨y4,z4,q4⟩:=zc (U HX).2 (j:=4) (by omega)
  obtain ⟨y5,z5,q5⟩:=zc (U HX).2 (j:=5) (by omega)
  obtain ⟨y6,z6,q6⟩:=zc (U HX).2 (j:=6) (by omega)
  obtain ⟨y7,z7,q7⟩:=zc (U HX).2 (j:=7) (by omega)
  obtain ⟨y8,z8,q8⟩:=zc (U HX).2 (j:=8) (by omega)
  obtain ⟨y9,z9,q9⟩:=zc (U HX).2 (j:=9) (by omega)
  obtain ⟨y10,z10,q10⟩:=zc (U HX).2 (j:=10) (by omega)
  have xN:=Y (yV hD w.heap.size 0 [.slice none 0 0,H 0,.slice none 0 0,H 0,H 0,H 0,H 0,H 0,H 0,H 0,H 0] (fun j R=>(U HX).2 j R))
  have vX:=Y (zm w.heap.size qt [.slice none 0 0,H 0,.slice none 0 0,H 0,H 0,H 0,H 0,H 0,H 0,H 0,H 0] 0 hD (U uv))
  clear HF HCF HCZ HC
  go_wp2_with fail
  change bodyPost _ _ _ _ _ (hD.setCells w.heap.size 0 [.slice none 0 0,H 0,.slice none 0 0,H 0,H 0,H 0,H 0,H 0,H 0,H 0,H 0])
  generalize hD.setCells w.heap.size 0 [.slice none 0 0,H 0,.slice none 0 0,H 0,H 0,H 0,H 0,H 0,H 0,H 0,H 0] = WE at xN vX ⊢
  obtain rfl:=U qC
  have d0:WE.cell? (yp w 0) = some (.slice none 0 0):=U xN 0 _ rfl
  have d1:WE.cell? (yp w 1) = some (H 0):=U xN 1 _ rfl
  have d2:WE.cell? (yp w 2) = some (.slice none 0 0):=U xN 2 _ rfl
  have d3:WE.cell? (yp w 3) = some (H 0):=U xN 3 _ rfl
  have d4:WE.cell? (yp w 4) = some (H 0):=U xN 4 _ rfl
  have d5:WE.cell? (yp w 5) = some (H 0):=U xN 5 _ rfl
  have d6:WE.cell? (yp w 6) = some (H 0):=U xN 6 _ rfl
  have d7:WE.cell? (yp w 7) = some (H 0):=U xN 7 _ rfl
  have d8:WE.cell? (yp w 8) = some (H 0):=U xN 8 _ rfl
  have d9:WE.cell? (yp w 9) = some (H 0):=U xN 9 _ rfl
  have d10:WE.cell? (yp w 10) = some (H 0):=U xN 10 _ rfl
  refine bodyPost_ret (by simp [results,Tryz.results10,go_sem,d0,d1,d2,d3,d4,d5,d6,d7,d8,d9,d10]; try rfl) rfl ?_
  exact ⟨_,_,rfl,⟨[],World.ownsRow_nil _ _ _ _,rfl,(fun i g es hg=>by simp at hg),List.Pairwise.nil⟩,World.ownsRow_nil _ _ _ _,U vX⟩
 have hz:CF = 0:=(U HCZ).2 jk
 have hzb:(CF != 0) = false:=by rw [hz]; rfl
 have qC:Hid (hb = { runS cs with t:=wbT (runS cs).t (runS cs).l }):=(U HF).trans (if_pos jk)
 have HIV:=Y (run_take cs jk)
 subst hz
 clear HF HCF HCZ
 go_wp2_with fail
 refine U xq _ _ ?_
 clear xq
 have vi:=dm hD (D #[.slice none 0 0,H 1,.slice none 0 0,H 0,H 0,H 0,H 0,H 0,H 0,H 0,H 0,.slice none 0 0] 71)
 have qQ:Hid (EnS hD.heap.size hD.heap.size (hD.alloc (D #[.slice none 0 0,H 1,.slice none 0 0,H 0,H 0,H 0,H 0,H 0,H 0,H 0,H 0,.slice none 0 0] 71)).heap.size (hD.alloc (D #[.slice none 0 0,H 1,.slice none 0 0,H 0,H 0,H 0,H 0,H 0,H 0,H 0,H 0,.slice none 0 0] 71)) (.slice none 0 0) [] [] 1 (.slice none 0 0) [] tot0 (.slice none 0 0) []):=⟨zg hD [.slice none 0 0,H 1,.slice none 0 0,H 0,H 0,H 0,H 0,H 0,H 0,H 0,H 0,.slice none 0 0] _,zt hD [.slice none 0 0,H 1,.slice none 0 0,H 0,H 0,H 0,H 0,H 0,H 0,H 0,H 0,.slice none 0 0] _,World.ownsRow_nil _ _ _ _,rfl,fun i g es hg=>by simp at hg,⟨fun g hg=>by simp at hg,List.Pairwise.nil⟩,World.ownsRow_nil _ _ _ _,World.ownsRow_nil _ _ _ _,⟨_,heap_alloc_new hD _⟩,vi.size,Nat.le_refl _⟩
 have HBY:=Y vi
 clear vi
 refine ds fun tg xq=>?_
 go_wp2_with fail
 refine U xq _ _ ?_
 clear xq
 generalize (hD.alloc (D #[.slice none 0 0,H 1,.slice none 0 0,H 0,H 0,H 0,H 0,H 0,H 0,H 0,H 0,.slice none 0 0] 71)) = yb at qQ HBY ⊢
 refine ds fun tg xq=>?_
 go_wp2_with fail
 go_loopw [20] (fun iv wr=>∃ (k:Nat),k ≤ cs.length∧iv = H k∧Hid ((∃ Bo gv gs vq,EnS hD.heap.size hD.heap.size Bo wr gv gs (runS (cs.take k)).g (runS (cs.take k)).n vq (runS (cs.take k)).l (runS (cs.take k)).t (.slice none 0 0) [])∧KeptBut hD.heap.size hD.heap.size yb wr)) (fun iv _=>cs.length - (intOf iv).toNat)
 case atStart=>exact ⟨0,Nat.zero_le _,rfl,⟨_,_,_,_,U qQ⟩,⟨rfl,rfl,rfl,Nat.le_refl _,fun _ _ _=>rfl⟩⟩
 case round =>
  obtain ⟨k,hk,rfl,uq⟩:=hrel
  obtain ⟨⟨Bo,gv,gs,vq,hE⟩,hkb⟩:=U uq
  have HE:=Y hE
  have HKB:=Y hkb
  have xJ:=Y (below_keptR ((U uv).trans ((U HBY).mono (U uv).size)) hkb (U uv).size (U uv).size)
  clear uq hE hkb
  by_cases xH:k < cs.length
  ·obtain ⟨e,qV⟩:∃ e,cs[k]? = some e:=⟨_,yF xH⟩
   obtain ⟨b,off,rfl,F,L⟩:=U HC k e qV
   have qv:=Y (cz cs qV)
   have uu:(k:Int) < cs.length:=by omega
   obtain ⟨g0,g1,g2,g3,g4,g5,g6,g7⟩:=cm_cells (zb L (U xJ) F)
   obtain ⟨oI,hi2,hi3,hi4⟩:=U HIV k hk
   have htge:=U qF e (yM qV)
   have oj:=(U HE).glen
   have hbA:=dm wr (D (yv e.k e.s e.t e.l e.q e.i e.p e.g).toArray 43)
   have HDO:=Y (doE_any e _ (zM (U HE) hbA) oI.good (by omega) (by omega) htge (by omega))
   have HKA:=Y (zi (U HKB) (zz (mb:=hD.heap.size) (B:=hD.heap.size) hbA (yL (U HE).bo (U HE).le)))
   unfold cmV at HDO
   clear L F hbA oI hi2 hi3 hi4 htge oj qV
   go_wp2_with fail
   refine (U HDO).mono ?_
   rintro r w5 ⟨rfl,⟨Bo5,gv5,gs5,vq5,jl⟩,hk5⟩
   have vU:=Y jl
   have jW:=Y (zi (U HKA) hk5)
   clear jl hk5 HDO g0 g1 g2 g3 g4 g5 g6 g7
   go_wp2_with fail
   go_roundw
   case rel=>exact ⟨k + 1,by omega,by go_num,⟨Bo5,gv5,gs5,vq5,by rw [U qv]; exact U vU⟩,U jW⟩
   case measure=>simp [intOf]; omega
  ·have uu:¬ (k:Int) < cs.length:=by omega
   rw [yX (by omega)] at HE
   go_wp2_with fail
   refine U xq _ _ ?_
   clear xq xH uu
   have hI:=run_inv cs jk
   generalize runS cs = s at HE qC hI
   obtain ⟨sn,sl,sg,st⟩:=s
   simp only at HE qC hI
   have oq:=hI.1.good.len
   obtain ⟨av,cv,hv⟩:=zQ (U HE).orow
   subst hv
   obtain ⟨ga,gc,hgv⟩:=zQ (U HE).grow
   subst hgv
   have HRO:=Y (zK (U HE).orow (by omega))
   have jM:=(U HE).lt
   have HWB:=Y (fun V hV=>withBook_any st sn (.slice av sl.length cv) sl V hV)
   generalize wbT st sl = T at HWB qC
   have HT:Hid (wr.rangeAt hD.heap.size 3 st.vs):=fun j u R=>by
    have:=(U HE).cells (3 + j) u (by
     match j,R with
     | 0,R | 1,R | 2,R | 3,R | 4,R | 5,R | 6,R | 7,R=>exact R
     | j + 8,R=>simp [Tot.vs] at R)
    rwa [Nat.zero_add] at this
   have jx:Hid (wr.there hD.heap.size 3 8):=fun j R=>by
    have:=(U HE).there (3 + j) (by omega)
    rwa [Nat.zero_add] at this
   have HM0:Hid (wr.cell? (yp hD 0) = some (.slice ga gs.length gc)):=(U HE).cells 0 _ rfl
   have vV:Hid (wr.cell? (yp hD 1) = some (H sn)):=(U HE).cells 1 _ rfl
   have vw:Hid (wr.cell? (yp hD 2) = some (.slice av sl.length cv)):=(U HE).cells 2 _ rfl
   have vN:Hid (wr.there w.heap.size 0 11):=there_blk (ze (U HX).2 (U HBY) (by have:=(U HX).1; omega)) ((U HKB).block _ (by have:=(U HX).1; omega) (by have:=(U HX).1; omega))
   obtain ⟨ua,xZ,uc,ud,ue,ub,uo,un⟩:=T
   simp only at HWB
   have n1:=U vV
   have n2:=U vw
   have n3:wr.cell? (yp hD 3) = some (H st.gr):=U HT 0 _ rfl
   have n4:wr.cell? (yp hD 4) = some (H st.ac):=U HT 1 _ rfl
   have n5:wr.cell? (yp hD 5) = some (H st.rf):=U HT 2 _ rfl
   have n6:wr.cell? (yp hD 6) = some (H st.tr):=U HT 3 _ rfl
   have n7:wr.cell? (yp hD 7) = some (H st.vo):=U HT 4 _ rfl
   have n8:wr.cell? (yp hD 8) = some (H st.no):=U HT 5 _ rfl
   have n9:wr.cell? (yp hD 9) = some (H st.li):=U HT 6 _ rfl
   have pu:wr.cell? (yp hD 10) = some (H st.le):=U HT 7 _ rfl
   refine ds fun tg xq=>?_
   go_wp2_with fail
   refine (U HWB wr (U HRO)).mono ?_
   rintro e V2 ⟨rfl,xU⟩
   clear n1 n2 n3 n4 n5 n6 n7 n8 n9 pu
   have xD:=ze (U jx) xU jM
   obtain ⟨y0,z0,q0⟩:=zX xD (j:=0) (by omega)
   obtain ⟨y1,z1,q1⟩:=zX xD (j:=1) (by omega)
   obtain ⟨y2,z2,q2⟩:=zX xD (j:=2) (by omega)
   obtain ⟨y3,z3,q3⟩:=zX xD (j:=3) (by omega)
   obtain ⟨y4,z4,q4⟩:=zX xD (j:=4) (by omega)
   obtain ⟨y5,z5,q5⟩:=zX xD (j:=5) (by omega)
   obtain ⟨y6,z6,q6⟩:=zX xD (j:=6) (by omega)
   obtain ⟨y7,z7,q7⟩:=zX xD (j:=7) (by omega)
   clear xD
   have vf:=Y xU
   clear xU
   go_wp2_with fail
   refine U xq _ _ ?_
   clear xq z0 q0 z1 q1 z2 q2 z3 q3 z4 q4 z5 q5 z6 q6 z7 q7
   change Code.wp _ _ _ _ (V2.setCells hD.heap.size 3 (Tot.mk ua xZ uc ud ue ub uo un).vs)
   have xU:=U vf
   generalize eV':V2.setCells hD.heap.size 3 (Tot.mk ua xZ uc ud ue ub uo un).vs = V
   have eV:=eV'.symm
   clear eV'
   have xC:=Y xU
   have vv:=Y eV
   have kp:hD.heap.size < V2.heap.size:=yH jM xU.size
   have HC0:Hid (∀ j u,j < 3→wr.cell? (yp hD j) = some u→V.cell? (yp hD j) = some u):=fun j u R hu=>by
    rw [eV]
    refine (World.cell?_setCells_out hD.heap.size _ 3 V2 (yp hD j) (fun _ _=>.inl R)).trans ?_
    exact (xU.cell (p:=(yp hD j)) jM).trans hu
   have kK:Hid (V.rangeAt hD.heap.size 3 (Tot.mk ua xZ uc ud ue ub uo un).vs):=by
    rw [eV]
    exact yV V2 hD.heap.size 3 _ (fun j R=>by
     have:=ze (U jx) xU jM j (by simpa [Tot.vs] using R)
     exact this)
   have qn:Hid (V.there w.heap.size 0 11):=by
    rw [eV]
    exact there_blk (ze (U vN) xU (by have:=(U HX).1; omega)) (bT hD.heap.size w.heap.size (by have:=(U HX).1; omega) _ 3 V2)
   have xA:w.heap.size ≠ hD.heap.size:=by have:=(U HX).1; omega
   have xr:Hid (ym w V):=by
    rw [eV]
    exact zm hD.heap.size (U uv).size _ 3 V2 (dq (U xJ) xU)
   clear eV xU
   have m0:=U HC0 0 _ (by omega) (U HM0)
   have m1:=U HC0 1 _ (by omega) (U vV)
   have m2:=U HC0 2 _ (by omega) (U vw)
   have m3:V.cell? (yp hD 3) = some (H ua):=U kK 0 _ rfl
   have m4:V.cell? (yp hD 4) = some (H xZ):=U kK 1 _ rfl
   have m5:V.cell? (yp hD 5) = some (H uc):=U kK 2 _ rfl
   have m6:V.cell? (yp hD 6) = some (H ud):=U kK 3 _ rfl
   have m7:V.cell? (yp hD 7) = some (H ue):=U kK 4 _ rfl
   have m8:V.cell? (yp hD 8) = some (H ub):=U kK 5 _ rfl
   have m9:V.cell? (yp hD 9) = some (H uo):=U kK 6 _ rfl
   have m10:V.cell? (yp hD 10) = some (H un):=U kK 7 _ rfl
   obtain ⟨y0,z0,q0⟩:=zc (U qn) (j:=0) (by omega)
   obtain ⟨y1,z1,q1⟩:=zc (U qn) (j:=1) (by omega)
   obtain ⟨y2,z2,q2⟩:=zc (U qn) (j:=2) (by omega)
   obtain ⟨y3,z3,q3⟩:=zc (U qn) (j:=3) (by omega)
   obtain ⟨y4,z4,q4⟩:=zc (U qn) (j:=4) (by omega)
   obtain ⟨y5,z5,q5⟩:=zc (U qn) (j:=5) (by omega)
   obtain ⟨y6,z6,q6⟩:=zc (U qn) (j:=6) (by omega)
   obtain ⟨y7,z7,q7⟩:=zc (U qn) (j:=7) (by omega)
   obtain ⟨y8,z8,q8⟩:=zc (U qn) (j:=8) (by omega)
   obtain ⟨y9,z9,q9⟩:=zc (U qn) (j:=9) (by omega)
   obtain ⟨y10,z10,q10⟩:=zc (U qn) (j:=10) (by omega)
   have xN:=Y (yV V w.heap.size 0 [.slice ga gs.length gc,H sn,.slice av sl.length cv,H ua,H xZ,H uc,H ud,H ue,H ub,H uo,H un] (fun j R=>U qn j R))
   have vX:=Y (zm w.heap.size qt [.slice ga gs.length gc,H sn,.slice av sl.length cv,H ua,H xZ,H uc,H ud,H ue,H ub,H uo,H un] 0 V (U xr))
   have vD:Hid (∀ {e sz n:Nat} {v:Value} {xs:List Value},wr.ownsRow hD.heap.size e sz v n xs→71 ≠ e→World.ownsRow (V.setCells w.heap.size 0 [.slice ga gs.length gc,H sn,.slice av sl.length cv,H ua,H xZ,H uc,H ud,H ue,H ub,H uo,H un]) w.heap.size e sz v n xs):=fun {e sz n v xs} h hne'=>by
    rw [U vv]
    exact row_end h (zj h (U HE).box hne') (U xC) (by have:=(U HX).1; omega) (U uv).size _ _ _ _
   have HG:Hid (GRa (V.setCells w.heap.size 0 [.slice ga gs.length gc,H sn,.slice av sl.length cv,H ua,H xZ,H uc,H ud,H ue,H ub,H uo,H un]) w.heap.size (.slice ga gs.length gc) sg):=⟨gs,U vD (U HE).grow (by decide),(U HE).glen,fun i g es hg vk=>U vD ((U HE).geach i g es hg vk) (by decide),(U HE).glt.2⟩
   have HO:Hid (ORow (V.setCells w.heap.size 0 [.slice ga gs.length gc,H sn,.slice av sl.length cv,H ua,H xZ,H uc,H ud,H ue,H ub,H uo,H un]) w.heap.size (.slice av sl.length cv) sl):=U vD (U HE).orow (by decide)
   clear vD
   go_wp2_with fail
   change bodyPost _ _ _ _ _ (V.setCells w.heap.size 0 [.slice ga gs.length gc,H sn,.slice av sl.length cv,H ua,H xZ,H uc,H ud,H ue,H ub,H uo,H un])
   generalize V.setCells w.heap.size 0 [.slice ga gs.length gc,H sn,.slice av sl.length cv,H ua,H xZ,H uc,H ud,H ue,H ub,H uo,H un] = WE at xN vX HG HO ⊢
   obtain rfl:=U qC
   have d0:WE.cell? (yp w 0) = some (.slice ga gs.length gc):=U xN 0 _ rfl
   have d1:WE.cell? (yp w 1) = some (H sn):=U xN 1 _ rfl
   have d2:WE.cell? (yp w 2) = some (.slice av sl.length cv):=U xN 2 _ rfl
   have d3:WE.cell? (yp w 3) = some (H ua):=U xN 3 _ rfl
   have d4:WE.cell? (yp w 4) = some (H xZ):=U xN 4 _ rfl
   have d5:WE.cell? (yp w 5) = some (H uc):=U xN 5 _ rfl
   have d6:WE.cell? (yp w 6) = some (H ud):=U xN 6 _ rfl
   have d7:WE.cell? (yp w 7) = some (H ue):=U xN 7 _ rfl
   have d8:WE.cell? (yp w 8) = some (H ub):=U xN 8 _ rfl
   have d9:WE.cell? (yp w 9) = some (H uo):=U xN 9 _ rfl
   have d10:WE.cell? (yp w 10) = some (H un):=U xN 10 _ rfl
   refine bodyPost_ret (by simp [results,Tryz.results10,go_sem,d0,d1,d2,d3,d4,d5,d6,d7,d8,d9,d10]; try rfl) rfl ?_
   exact ⟨_,_,rfl,U HG,U HO,U vX⟩
def livS (l:List Od):Int:=l.foldl (fun n o=>wrap64 (n + o.left)) 0
theorem liv_step (l:List Od) {k:Nat} {o:Od} (h:l[k]? = some o):livS (l.take (k + 1)) = wrap64 (livS (l.take k) + o.left):=by
 unfold livS
 rw [List.take_add_one,h,List.foldl_append]; rfl
theorem l04Live_any (next:Int) (v:Value) (l:List Od) (w:World) (hr:RdR Od.vs 6 w v l) :
  Calls Tryz.prog 121 #[.agg #[H next,v]] w fun r w'=>r = yl (.tuple #[H l.length,H (livS l)])∧ym w w':=by
 obtain ⟨a,E,rfl,xB,hc⟩:=hr
 have xo:∀ (k:Nat) (c:Od),l[k]? = some c→∃ b off,a = some (J b off)∧b < w.heap.size∧w.rangeAt b (off + k * 6) c.vs:=by
  intro k c hk
  obtain ⟨b,off,Q,N,h3⟩:=hc (by intro h; rw [h] at hk; simp at hk)
  exact ⟨b,off,Q,N,h3 k c hk⟩
 have HC:=Y xo
 clear xo hc
 have b1:=dm w (D #[H next,.slice a l.length E] 28)
 have HX:Hid (_∧_∧_):=⟨zg w [H next,.slice a l.length E] 28,b1,zf w (D #[H next,.slice a l.length E] 28)⟩
 clear b1
 go_enter Tryz.func121,Tryz.ntmps121
 refine ds fun tg xq=>?_
 go_wp2_with fail
 refine U xq _ _ ?_
 clear xq
 change Hid (World.rangeAt (w.alloc (D #[H next,.slice a l.length E] 28)) w.heap.size 0 [H next,.slice a l.length E]∧ym w (w.alloc (D #[H next,.slice a l.length E] 28))∧(w.alloc (D #[H next,.slice a l.length E] 28)).heap.size = w.heap.size + 1) at HX
 generalize (w.alloc (D #[H next,.slice a l.length E] 28)) = hD at HX ⊢
 have c1:hD.cell? (yp w 1) = some (.slice a l.length E):=(U HX).1 1 _ rfl
 go_wp2_with fail
 go_loopw [4,5] (fun nv iv wr=>wr = hD∧∃ (k:Nat),k ≤ l.length∧iv = H k∧∃ n:Int,nv = H n∧Hid (n = livS (l.take k))) (fun _ iv _=>l.length - (intOf iv).toNat)
 case atStart=>exact ⟨rfl,0,Nat.zero_le _,rfl,0,rfl,rfl⟩
 case round =>
  obtain ⟨rfl,k,hk,rfl,n,rfl,hn⟩:=hrel
  by_cases xH:k < l.length
  ·obtain ⟨e,qV⟩:∃ e,l[k]? = some e:=⟨_,yF xH⟩
   obtain ⟨b,off,rfl,F,L⟩:=U HC k e qV
   have qv:=Y (liv_step l qV)
   have uu:(k:Int) < l.length:=by omega
   obtain ⟨g0,g1,g2,g3,g4,g5⟩:=zC (zb L (U HX).2.1 F)
   clear qV L F
   go_wp2_with fail
   go_roundw
   case rel=>exact ⟨trivial,k + 1,by omega,by go_num,_,rfl,Y (by rw [U qv,U hn])⟩
   case measure=>simp [intOf]; omega
  ·have uu:¬ (k:Int) < l.length:=by omega
   rw [yX (by omega)] at hn
   have HB:=Y (U HX).2.1
   clear HX
   go_wp2_with fail
   try simp only [Exit.inBlock,Exit.then]
   refine bodyPost_ret (by simp [results,Tryz.results121,go_sem]; try rfl) rfl ?_
   exact ⟨by rw [U hn],U HB⟩
def cntM (t:Tot) (e:Ev):Tot :=
 if e.kind = 1 then { t with ac:=wrap64 (t.ac + 1) } else if e.kind = 2 then { t with rf:=wrap64 (t.rf + 1) }
 else if e.kind = 3 then { t with tr:=wrap64 (t.tr + 1),vo:=wrap64 (t.vo + e.qty),no:=wrap64 (t.no + wrap64 (e.qty * e.price)),le:=wrap64 (t.le - e.qty) }
 else if e.kind = 4 then { t with li:=wrap64 (t.li + 1),le:=wrap64 (t.le + e.qty) } else t
theorem l04Count_any (t:Tot) (e:Ev) (w:World) :
  Calls Tryz.prog 120 #[.agg #[H t.gr,H t.ac,H t.rf,H t.tr,H t.vo,H t.no,H t.li,H t.le],.agg (yt e.kind e.cmd.k e.cmd.s e.cmd.t e.cmd.l e.cmd.q e.cmd.i e.cmd.p e.cmd.g e.id e.other e.qty e.price e.reason).toArray] w fun r w'=>r = yl (.agg #[H (cntM t e).gr,H (cntM t e).ac,H (cntM t e).rf,H (cntM t e).tr,H (cntM t e).vo,H (cntM t e).no,H (cntM t e).li,H (cntM t e).le])∧ym w w':=by
 have HM:Hid (cntM t e = if e.kind = 1 then { t with ac:=wrap64 (t.ac + 1) } else if e.kind = 2 then { t with rf:=wrap64 (t.rf + 1) }
  else if e.kind = 3 then { t with tr:=wrap64 (t.tr + 1),vo:=wrap64 (t.vo + e.qty),no:=wrap64 (t.no + wrap64 (e.qty * e.price)),le:=wrap64 (t.le - e.qty) }
  else if e.kind = 4 then { t with li:=wrap64 (t.li + 1),le:=wrap64 (t.le + e.qty) } else t):=rfl
 generalize cntM t e = yk at HM ⊢
 obtain ⟨ua,xZ,uc,ud,ue,ub,uo,un⟩:=t
 simp only at HM ⊢
 have hsf:=sfl
 have xy:=zf w (D #[H ua,H xZ,H uc,H ud,H ue,H ub,H uo,H un] 30)
 have xY:((w.alloc (D #[H ua,H xZ,H uc,H ud,H ue,H ub,H uo,H un] 30)).alloc (D (yt e.kind e.cmd.k e.cmd.s e.cmd.t e.cmd.l e.cmd.q e.cmd.i e.cmd.p e.cmd.g e.id e.other e.qty e.price e.reason).toArray 46)).heap.size = w.heap.size + 1 + 1:=by rw [zf,xy]
 have jg:(((w.alloc (D #[H ua,H xZ,H uc,H ud,H ue,H ub,H uo,H un] 30)).alloc (D (yt e.kind e.cmd.k e.cmd.s e.cmd.t e.cmd.l e.cmd.q e.cmd.i e.cmd.p e.cmd.g e.id e.other e.qty e.price e.reason).toArray 46)).alloc (D #[H 0,H 0,H 0,H 0,H 0,H 0,H 0,H 0] 30)).heap.size = w.heap.size + 1 + 1 + 1:=by rw [zf,xY]
 have r1:=zg w [H ua,H xZ,H uc,H ud,H ue,H ub,H uo,H un] 30
 have t1:=zt w [H ua,H xZ,H uc,H ud,H ue,H ub,H uo,H un] 30
 have r2:=zg (w.alloc (D #[H ua,H xZ,H uc,H ud,H ue,H ub,H uo,H un] 30)) (yt e.kind e.cmd.k e.cmd.s e.cmd.t e.cmd.l e.cmd.q e.cmd.i e.cmd.p e.cmd.g e.id e.other e.qty e.price e.reason) 46
 have t3:=zt ((w.alloc (D #[H ua,H xZ,H uc,H ud,H ue,H ub,H uo,H un] 30)).alloc (D (yt e.kind e.cmd.k e.cmd.s e.cmd.t e.cmd.l e.cmd.q e.cmd.i e.cmd.p e.cmd.g e.id e.other e.qty e.price e.reason).toArray 46)) [H 0,H 0,H 0,H 0,H 0,H 0,H 0,H 0] 30
 rw [xY] at t3
 rw [xy] at r2
 have b1:=dm w (D #[H ua,H xZ,H uc,H ud,H ue,H ub,H uo,H un] 30)
 have b2:Below (w.heap.size + 1) (w.alloc (D #[H ua,H xZ,H uc,H ud,H ue,H ub,H uo,H un] 30)) ((w.alloc (D #[H ua,H xZ,H uc,H ud,H ue,H ub,H uo,H un] 30)).alloc (D (yt e.kind e.cmd.k e.cmd.s e.cmd.t e.cmd.l e.cmd.q e.cmd.i e.cmd.p e.cmd.g e.id e.other e.qty e.price e.reason).toArray 46)):=(Below.refl _ _).alloc (by omega) _
 have b3:Below (w.heap.size + 1 + 1) ((w.alloc (D #[H ua,H xZ,H uc,H ud,H ue,H ub,H uo,H un] 30)).alloc (D (yt e.kind e.cmd.k e.cmd.s e.cmd.t e.cmd.l e.cmd.q e.cmd.i e.cmd.p e.cmd.g e.id e.other e.qty e.price e.reason).toArray 46)) (((w.alloc (D #[H ua,H xZ,H uc,H ud,H ue,H ub,H uo,H un] 30)).alloc (D (yt e.kind e.cmd.k e.cmd.s e.cmd.t e.cmd.l e.cmd.q e.cmd.i e.cmd.p e.cmd.g e.id e.other e.qty e.price e.reason).toArray 46)).alloc (D #[H 0,H 0,H 0,H 0,H 0,H 0,H 0,H 0] 30)):=(Below.refl _ _).alloc (by omega) _
 have HX:Hid (_∧_∧_∧_∧_):=⟨zb (zb r1 b2 (by omega)) b3 (by omega),ze (ze t1 b2 (by omega)) b3 (by omega),t3,(b1.trans (b2.mono (by omega))).trans (b3.mono (by omega)),Nat.le_of_eq jg.symm⟩
 have vv:=Y (zb r2 b3 (by omega))
 clear xy xY jg r1 r2 t1 t3 b1 b2 b3
 go_enter Tryz.func120,Tryz.ntmps120
 refine ds fun tg xq=>?_
 go_wp2_with fail
 refine U xq _ _ ?_
 clear xq
 generalize (((w.alloc (D #[H ua,H xZ,H uc,H ud,H ue,H ub,H uo,H un] 30)).alloc (D (yt e.kind e.cmd.k e.cmd.s e.cmd.t e.cmd.l e.cmd.q e.cmd.i e.cmd.p e.cmd.g e.id e.other e.qty e.price e.reason).toArray 46)).alloc (D #[H 0,H 0,H 0,H 0,H 0,H 0,H 0,H 0] 30)) = hD at HX vv ⊢
 have HX:Hid (hD.rangeAt w.heap.size 0 [H ua,H xZ,H uc,H ud,H ue,H ub,H uo,H un]∧hD.there w.heap.size 0 8∧hD.there (w.heap.size + 1 + 1) 0 8∧ym w hD∧w.heap.size + 1 + 1 + 1 ≤ hD.heap.size):=U HX
 obtain ⟨g0,g1,g2,g3,g4,g5,g6,g7,g8,g9,qG,vB,xX,kC⟩:=bM (U vv)
 clear g1 g2 g3 g4 g5 g6 g7 g8 g9 qG kC vv
 simp only [Nat.zero_add] at vB xX
 have d0:hD.cell? (yp w 0) = some (H ua):=(U HX).1 0 _ rfl
 have p0:hD.frozen? (yp w 0) = false:=by have:=((U HX).2.1 0 (by omega)).2; rwa [Nat.zero_add] at this
 have d1:hD.cell? (yp w 1) = some (H xZ):=(U HX).1 1 _ rfl
 have p1:hD.frozen? (yp w 1) = false:=by have:=((U HX).2.1 1 (by omega)).2; rwa [Nat.zero_add] at this
 have d2:hD.cell? (yp w 2) = some (H uc):=(U HX).1 2 _ rfl
 have p2:hD.frozen? (yp w 2) = false:=by have:=((U HX).2.1 2 (by omega)).2; rwa [Nat.zero_add] at this
 have d3:hD.cell? (yp w 3) = some (H ud):=(U HX).1 3 _ rfl
 have p3:hD.frozen? (yp w 3) = false:=by have:=((U HX).2.1 3 (by omega)).2; rwa [Nat.zero_add] at this
 have d4:hD.cell? (yp w 4) = some (H ue):=(U HX).1 4 _ rfl
 have p4:hD.frozen? (yp w 4) = false:=by have:=((U HX).2.1 4 (by omega)).2; rwa [Nat.zero_add] at this
 have d5:hD.cell? (yp w 5) = some (H ub):=(U HX).1 5 _ rfl
 have p5:hD.frozen? (yp w 5) = false:=by have:=((U HX).2.1 5 (by omega)).2; rwa [Nat.zero_add] at this
 have d6:hD.cell? (yp w 6) = some (H uo):=(U HX).1 6 _ rfl
 have p6:hD.frozen? (yp w 6) = false:=by have:=((U HX).2.1 6 (by omega)).2; rwa [Nat.zero_add] at this
 have d7:hD.cell? (yp w 7) = some (H un):=(U HX).1 7 _ rfl
 have p7:hD.frozen? (yp w 7) = false:=by have:=((U HX).2.1 7 (by omega)).2; rwa [Nat.zero_add] at this
 refine ds fun tg xq=>?_
 have HT:Hid (∀ (V:World) (T:Tot) (u5 u6 u7 u8 u9 u10 u11 u12 u13 u14 u15 u16 u17 u18 u19 u20 u21 u22 u23 u24 u25 u26 u27 u28 u29 u30 u31 u32 u33 u34 u35 u36 u37 u38 u39 u40 u41 u42 u43 u44 u45 u46 u47 u48 u49 u50 u51 u52 u53 u54 u55 u56 u57:Value),yk = T→(V.rangeAt w.heap.size 0 T.vs∧V.there w.heap.size 0 8∧V.there (w.heap.size + 1 + 1) 0 8∧ym w V∧w.heap.size + 1 + 1 + 1 ≤ V.heap.size)→tg { tmps:=#[.agg #[H ua,H xZ,H uc,H ud,H ue,H ub,H uo,H un],.agg (yt e.kind e.cmd.k e.cmd.s e.cmd.t e.cmd.l e.cmd.q e.cmd.i e.cmd.p e.cmd.g e.id e.other e.qty e.price e.reason).toArray,yn w 0,I (w.heap.size + 1) 0,I (w.heap.size + 1 + 1) 0,u5,u6,u7,u8,u9,u10,u11,u12,u13,u14,u15,u16,u17,u18,u19,u20,u21,u22,u23,u24,u25,u26,u27,u28,u29,u30,u31,u32,u33,u34,u35,u36,u37,u38,u39,u40,u41,u42,u43,u44,u45,u46,u47,u48,u49,u50,u51,u52,u53,u54,u55,u56,u57,M],defers:=[] } V):=by
  intro V T u5 u6 u7 u8 u9 u10 u11 u12 u13 u14 u15 u16 u17 u18 u19 u20 u21 u22 u23 u24 u25 u26 u27 u28 u29 u30 u31 u32 u33 u34 u35 u36 u37 u38 u39 u40 u41 u42 u43 u44 u45 u46 u47 u48 u49 u50 u51 u52 u53 u54 u55 u56 u57 hMT uq
  have HY:=Y uq
  have kO:=Y hMT
  clear uq hMT HM HX g0 vB xX d0 p0 d1 p1 d2 p2 d3 p3 d4 p4 d5 p5 d6 p6 d7 p7
  obtain ⟨agr,aac,arf,atr,avo,ano,ali,ale⟩:=T
  have c0:V.cell? (yp w 0) = some (H agr):=(U HY).1 0 _ rfl
  obtain ⟨y0,z0,q0⟩:=zc (U HY).2.2.1 (j:=0) (by omega)
  have c1:V.cell? (yp w 1) = some (H aac):=(U HY).1 1 _ rfl
  obtain ⟨y1,z1,q1⟩:=zc (U HY).2.2.1 (j:=1) (by omega)
  have c2:V.cell? (yp w 2) = some (H arf):=(U HY).1 2 _ rfl
  obtain ⟨y2,z2,q2⟩:=zc (U HY).2.2.1 (j:=2) (by omega)
  have c3:V.cell? (yp w 3) = some (H atr):=(U HY).1 3 _ rfl
  obtain ⟨y3,z3,q3⟩:=zc (U HY).2.2.1 (j:=3) (by omega)
  have c4:V.cell? (yp w 4) = some (H avo):=(U HY).1 4 _ rfl
  obtain ⟨y4,z4,q4⟩:=zc (U HY).2.2.1 (j:=4) (by omega)
  have c5:V.cell? (yp w 5) = some (H ano):=(U HY).1 5 _ rfl
  obtain ⟨y5,z5,q5⟩:=zc (U HY).2.2.1 (j:=5) (by omega)
  have c6:V.cell? (yp w 6) = some (H ali):=(U HY).1 6 _ rfl
  obtain ⟨y6,z6,q6⟩:=zc (U HY).2.2.1 (j:=6) (by omega)
  have c7:V.cell? (yp w 7) = some (H ale):=(U HY).1 7 _ rfl
  obtain ⟨y7,z7,q7⟩:=zc (U HY).2.2.1 (j:=7) (by omega)
  have xN:=Y (yV V (w.heap.size + 1 + 1) 0 [H agr,H aac,H arf,H atr,H avo,H ano,H ali,H ale] (fun j R=>(U HY).2.2.1 j R))
  have vX:=Y (zm (w.heap.size + 1 + 1) (by omega) [H agr,H aac,H arf,H atr,H avo,H ano,H ali,H ale] 0 V (U HY).2.2.2.1)
  refine U xq _ _ ?_
  clear xq
  go_wp2_with fail
  change bodyPost _ _ _ _ _ (V.setCells (w.heap.size + 1 + 1) 0 [H agr,H aac,H arf,H atr,H avo,H ano,H ali,H ale])
  generalize V.setCells (w.heap.size + 1 + 1) 0 [H agr,H aac,H arf,H atr,H avo,H ano,H ali,H ale] = WE at xN vX ⊢
  obtain ⟨d0,d1,d2,d3,d4,d5,d6,d7⟩:=yB (U xN)
  refine bodyPost_ret (by simp [results,Tryz.results120,go_sem,d0,d1,d2,d3,d4,d5,d6,d7]; try rfl) rfl ?_
  exact ⟨by rw [U kO],U vX⟩
 clear xq
 by_cases Q:e.kind = 1
 ·have b1:(e.kind == 1) = true:=by simpa using Q
  have HE:=Y ((U HM).trans (if_pos Q))
  clear HM Q
  go_wp2_with fail
  exact U HT _ (Tot.mk ua (wrap64 (xZ + 1)) uc ud ue ub uo un) _ _ _ _ _ _ _ _ _ _ _ _ _ _ _ _ _ _ _ _ _ _ _ _ _ _ _ _ _ _ _ _ _ _ _ _ _ _ _ _ _ _ _ _ _ _ _ _ _ _ _ _ _ (U HE) (keepB (U HX) 1 (by simp) _)
 have b1:(e.kind == 1) = false:=by rw [xb]; exact Q
 by_cases N:e.kind = 2
 ·have b2:(e.kind == 2) = true:=by simpa using N
  have HE:=Y ((U HM).trans ((if_neg Q).trans (if_pos N)))
  clear HM Q N
  go_wp2_with fail
  exact U HT _ (Tot.mk ua xZ (wrap64 (uc + 1)) ud ue ub uo un) _ _ _ _ _ _ _ _ _ _ _ _ _ _ _ _ _ _ _ _ _ _ _ _ _ _ _ _ _ _ _ _ _ _ _ _ _ _ _ _ _ _ _ _ _ _ _ _ _ _ _ _ _ (U HE) (keepB (U HX) 2 (by simp) _)
 have b2:(e.kind == 2) = false:=by rw [xb]; exact N
 by_cases h3:e.kind = 3
 ·have b3:(e.kind == 3) = true:=by simpa using h3
  have HE:=Y ((U HM).trans ((if_neg Q).trans ((if_neg N).trans (if_pos h3))))
  clear HM Q N h3
  go_wp2_with fail
  exact U HT _ (Tot.mk ua xZ uc (wrap64 (ud + 1)) (wrap64 (ue + e.qty)) (wrap64 (ub + wrap64 (e.qty * e.price))) uo (wrap64 (un - e.qty))) _ _ _ _ _ _ _ _ _ _ _ _ _ _ _ _ _ _ _ _ _ _ _ _ _ _ _ _ _ _ _ _ _ _ _ _ _ _ _ _ _ _ _ _ _ _ _ _ _ _ _ _ _ (U HE) (keepB (keepB (keepB (keepB (U HX) 3 (by simp) _) 4 (by simp) _) 5 (by simp) _) 7 (by simp) _)
 have b3:(e.kind == 3) = false:=by rw [xb]; exact h3
 by_cases h4:e.kind = 4
 ·have b4:(e.kind == 4) = true:=by simpa using h4
  have HE:=Y ((U HM).trans ((if_neg Q).trans ((if_neg N).trans ((if_neg h3).trans (if_pos h4)))))
  clear HM Q N h3 h4
  go_wp2_with fail
  exact U HT _ (Tot.mk ua xZ uc ud ue ub (wrap64 (uo + 1)) (wrap64 (un + e.qty))) _ _ _ _ _ _ _ _ _ _ _ _ _ _ _ _ _ _ _ _ _ _ _ _ _ _ _ _ _ _ _ _ _ _ _ _ _ _ _ _ _ _ _ _ _ _ _ _ _ _ _ _ _ (U HE) (keepB (keepB (U HX) 6 (by simp) _) 7 (by simp) _)
 have b4:(e.kind == 4) = false:=by rw [xb]; exact h4
 have HE:=Y ((U HM).trans ((if_neg Q).trans ((if_neg N).trans ((if_neg h3).trans (if_neg h4)))))
 clear HM Q N h3 h4
 go_wp2_with fail
 exact U HT _ (Tot.mk ua xZ uc ud ue ub uo un) _ _ _ _ _ _ _ _ _ _ _ _ _ _ _ _ _ _ _ _ _ _ _ _ _ _ _ _ _ _ _ _ _ _ _ _ _ _ _ _ _ _ _ _ _ _ _ _ _ _ _ _ _ (U HE) (U HX)
end Go.Proofs.YtbakanofkghmiaaGreat
