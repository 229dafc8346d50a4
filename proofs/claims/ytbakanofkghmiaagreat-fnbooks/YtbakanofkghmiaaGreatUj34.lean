/-
  RunScript by the program: proved by walking the function.
-/
import Derived.Test.YtbakanofkghmiaaGreatUj33
set_option linter.unusedVariables false
set_option maxHeartbeats 6400000
set_option maxRecDepth 100000
namespace Go.Proofs.YtbakanofkghmiaaGreat
open Go.RowKit
section
variable {C:Nat→Value→Prop} {mb:Nat} {tv:List Value} {base W W':World} {x:List Bool} {f:Nat→Value}
end
theorem below_keptR {mb B:Nat} {w yb W:World} (G:ym w yb) (D:KeptBut mb B yb W) (hB:w.heap.size ≤ B) (hm:w.heap.size ≤ mb):ym w W :=
 ⟨D.os.trans G.os,D.tape.trans G.tape,D.output.trans G.output,yL G.size D.size,fun k hk=>(D.block k (by omega) (by omega)).trans (G.block k hk)⟩
theorem row_end {e sz n mb R B C:Nat} {v:Value} {xs:List Value} {W V2:World} (h:W.ownsRow B e sz v n xs) (hm:some mb ≠ v.ownBlock) (O:ym W V2) (E:R < B) (hC:C ≤ B) (us vs:List Value) (o1 o2:Nat):((V2.setCells mb o1 us).setCells R o2 vs).ownsRow C e sz v n xs:=by
 have G:V2.ownsRow B e sz v n xs:=World.ownsRow.kept (row:=none) h (aO O hb) (by cases v.ownBlock <;> simp)
 have D:=bJ hm us o1 V2 G
 have h3:=bJ (b:=R) (fun e'=>by have:=(h.lt R e'.symm).1; omega) vs o2 _ D
 refine ⟨h3.1,?_⟩
 rcases h3.2 with k1 | ⟨g',c',xp,k1,k2,k3⟩
 ·exact .inl k1
 ·exact .inr ⟨g',c',xp,k1,yL hC k2,k3⟩
structure GRs (W:World) (B:Nat) (gv:Value) (gl:List (List Ev)):Prop where
 ex:∃ gs:List Value,GRow W B gv gs∧gs.length = gl.length∧∀ (i:Nat) (g:Value) (es:List Ev),gs[i]? = some g→gl[i]? = some es→ERow W B g es
structure GRa (W:World) (B:Nat) (gv:Value) (gl:List (List Ev)):Prop where
 ex:∃ gs:List Value,GRow W B gv gs∧gs.length = gl.length∧(∀ (i:Nat) (g:Value) (es:List Ev),gs[i]? = some g→gl[i]? = some es→ERow W B g es)∧gs.Pairwise fun g g'=>∀ b b',g.ownBlock = some b→g'.ownBlock = some b'→b < b'
theorem implRunScript_any (v:Value) (cs:List Cm) (w:World) (hr:RdR Cm.vs 8 w v cs) (oK:∀ c ∈ cs,c.g.size ≤ maxLen) :
  Calls Tryz.prog 10 #[v] w fun e w'=>∃ gv vq,e = yl (.tuple #[.agg #[gv,H (rsF cs).n,vq,H (rsF cs).t.gr,H (rsF cs).t.ac,H (rsF cs).t.rf,H (rsF cs).t.tr,H (rsF cs).t.vo,H (rsF cs).t.no,H (rsF cs).t.li,H (rsF cs).t.le],H (cntF cs.length)])∧GRa w' w.heap.size gv (rsF cs).g∧ORow w' w.heap.size vq (rsF cs).l∧ym w w':=by
 have HR:=Y hr
 have qw:=Y oK
 obtain ⟨a,A,rfl,xC,hc⟩:=hr
 have xo:∀ (k:Nat) (c:Cm),cs[k]? = some c→∃ b off,a = some (J b off)∧b < w.heap.size∧w.rangeAt b (off + k * 8) c.vs:=by
  intro k c hk
  obtain ⟨b,off,G,D,h3⟩:=hc (by intro h; rw [h] at hk; simp at hk)
  exact ⟨b,off,G,D,h3 k c hk⟩
 have HC:=Y xo
 clear xo hc oK
 have hsf:=sfl
 have HCF:=Y (fun W=>countFault_any cs.length xC W)
 have HCZ:=Y (@cntF_zero cs.length)
 have HF:Hid (rsF cs = if cs.length ≤ 200 then { runS cs with t:=wbT (runS cs).t (runS cs).l } else ⟨0,[],[],tot0⟩):=rfl
 generalize rsF cs = qt at HF ⊢
 generalize cntF cs.length = CF at HCF HCZ ⊢
 have hbX:=eB w (N #[.slice none 0 0,H 0,.slice none 0 0,H 0,H 0,H 0,H 0,H 0,H 0,H 0,H 0] 32)
 have HX:Hid ((w.alloc (N #[.slice none 0 0,H 0,.slice none 0 0,H 0,H 0,H 0,H 0,H 0,H 0,H 0,H 0] 32)).heap.size = w.heap.size + 1∧World.there (w.alloc (N #[.slice none 0 0,H 0,.slice none 0 0,H 0,H 0,H 0,H 0,H 0,H 0,H 0,H 0] 32)) w.heap.size 0 11):=⟨zf _ _,zt w [.slice none 0 0,H 0,.slice none 0 0,H 0,H 0,H 0,H 0,H 0,H 0,H 0,H 0] 32⟩
 have uy:=Y hbX
 clear hbX
 go_enter Tryz.func10,Tryz.ntmps10
 refine eF fun hj xq=>?_
 go_wp2_with fail
 refine U xq _ _ ?_
 clear xq
 generalize (w.alloc (N #[.slice none 0 0,H 0,.slice none 0 0,H 0,H 0,H 0,H 0,H 0,H 0,H 0,H 0] 32)) = xm at HX uy ⊢
 refine eF fun hj xq=>?_
 go_wp2_with fail
 refine (U HCF xm).mono ?_
 rintro e w3 ⟨rfl,hw3⟩
 rw [hw3]
 clear hw3 w3
 by_cases jx:cs.length ≤ 200
 rotate_left
 ·have xA:CF ≠ 0:=fun e=>jx ((U HCZ).1 e)
  have hneb:(CF != 0) = true:=by simpa using xA
  have qK:Hid (qt = ⟨0,[],[],tot0⟩):=(U HF).trans (if_neg jx)
  obtain ⟨y0,z0,q0⟩:=zc (U HX).2 (j:=0) (by omega)
  obtain ⟨y1,z1,q1⟩:=zc (U HX).2 (j:=1) (by omega)
  obtain ⟨y2,z2,q2⟩:=zc (U HX).2 (j:=2) (by omega)
  obtain ⟨y3,z3,q3⟩:=zc (U HX).2 (j:=3) (by omega)
  obtain ⟨y4,z4,q4⟩:=zc (U HX).2 (j:=4) (by omega)
  obtain ⟨y5,z5,q5⟩:=zc (U HX).2 (j:=5) (by omega)
  obtain ⟨y6,z6,q6⟩:=zc (U HX).2 (j:=6) (by omega)
  obtain ⟨y7,z7,q7⟩:=zc (U HX).2 (j:=7) (by omega)
  obtain ⟨y8,z8,q8⟩:=zc (U HX).2 (j:=8) (by omega)
  obtain ⟨y9,z9,q9⟩:=zc (U HX).2 (j:=9) (by omega)
  obtain ⟨az,z10,q10⟩:=zc (U HX).2 (j:=10) (by omega)
  have xO:=Y (yV xm w.heap.size 0 [.slice none 0 0,H 0,.slice none 0 0,H 0,H 0,H 0,H 0,H 0,H 0,H 0,H 0] (fun j K=>(U HX).2 j K))
  have vG:=Y (zm w.heap.size hb [.slice none 0 0,H 0,.slice none 0 0,H 0,H 0,H 0,H 0,H 0,H 0,H 0,H 0] 0 xm (U uy))
  clear HF HCF HCZ HC
  go_wp2_with fail
  change bodyPost _ _ _ _ _ (xm.setCells w.heap.size 0 [.slice none 0 0,H 0,.slice none 0 0,H 0,H 0,H 0,H 0,H 0,H 0,H 0,H 0])
  generalize xm.setCells w.heap.size 0 [.slice none 0 0,H 0,.slice none 0 0,H 0,H 0,H 0,H 0,H 0,H 0,H 0,H 0] = WE at xO vG ⊢
  obtain rfl:=U qK
  have d0:WE.cell? (yp w 0) = some (.slice none 0 0):=U xO 0 _ rfl
  have d1:WE.cell? (yp w 1) = some (H 0):=U xO 1 _ rfl
  have d2:WE.cell? (yp w 2) = some (.slice none 0 0):=U xO 2 _ rfl
  have d3:WE.cell? (yp w 3) = some (H 0):=U xO 3 _ rfl
  have d4:WE.cell? (yp w 4) = some (H 0):=U xO 4 _ rfl
  have d5:WE.cell? (yp w 5) = some (H 0):=U xO 5 _ rfl
  have d6:WE.cell? (yp w 6) = some (H 0):=U xO 6 _ rfl
  have d7:WE.cell? (yp w 7) = some (H 0):=U xO 7 _ rfl
  have d8:WE.cell? (yp w 8) = some (H 0):=U xO 8 _ rfl
  have d9:WE.cell? (yp w 9) = some (H 0):=U xO 9 _ rfl
  have d10:WE.cell? (yp w 10) = some (H 0):=U xO 10 _ rfl
  refine bodyPost_ret (by simp [results,Tryz.results10,go_sem,d0,d1,d2,d3,d4,d5,d6,d7,d8,d9,d10]; try rfl) rfl ?_
  exact ⟨_,_,rfl,⟨[],World.ownsRow_nil _ _ _ _,rfl,(fun i g es hg=>by simp at hg),List.Pairwise.nil⟩,World.ownsRow_nil _ _ _ _,U vG⟩
 have hz:CF = 0:=(U HCZ).2 jx
 have hzb:(CF != 0) = false:=by rw [hz]; rfl
 have qK:Hid (qt = { runS cs with t:=wbT (runS cs).t (runS cs).l }):=(U HF).trans (if_pos jx)
 have HIV:=Y (run_take cs jx)
 subst hz
 clear HF HCF HCZ
 go_wp2_with fail
 refine U xq _ _ ?_
 clear xq
 have vn:=eB xm (N #[.slice none 0 0,H 1,.slice none 0 0,H 0,H 0,H 0,H 0,H 0,H 0,H 0,H 0,.slice none 0 0] 71)
 have qD:Hid (EnS xm.heap.size xm.heap.size (xm.alloc (N #[.slice none 0 0,H 1,.slice none 0 0,H 0,H 0,H 0,H 0,H 0,H 0,H 0,H 0,.slice none 0 0] 71)).heap.size (xm.alloc (N #[.slice none 0 0,H 1,.slice none 0 0,H 0,H 0,H 0,H 0,H 0,H 0,H 0,H 0,.slice none 0 0] 71)) (.slice none 0 0) [] [] 1 (.slice none 0 0) [] tot0 (.slice none 0 0) []):=⟨zg xm [.slice none 0 0,H 1,.slice none 0 0,H 0,H 0,H 0,H 0,H 0,H 0,H 0,H 0,.slice none 0 0] _,zt xm [.slice none 0 0,H 1,.slice none 0 0,H 0,H 0,H 0,H 0,H 0,H 0,H 0,H 0,.slice none 0 0] _,World.ownsRow_nil _ _ _ _,rfl,fun i g es hg=>by simp at hg,⟨fun g hg=>by simp at hg,List.Pairwise.nil⟩,World.ownsRow_nil _ _ _ _,World.ownsRow_nil _ _ _ _,⟨_,heap_alloc_new xm _⟩,vn.size,Nat.le_refl _⟩
 have HBY:=Y vn
 clear vn
 refine eF fun hj xq=>?_
 go_wp2_with fail
 refine U xq _ _ ?_
 clear xq
 generalize (xm.alloc (N #[.slice none 0 0,H 1,.slice none 0 0,H 0,H 0,H 0,H 0,H 0,H 0,H 0,H 0,.slice none 0 0] 71)) = yb at qD HBY ⊢
 refine eF fun hj xq=>?_
 go_wp2_with fail
 go_loopw [20] (fun iv wr=>∃ (k:Nat),k ≤ cs.length∧iv = H k∧Hid ((∃ Bo gv gs vq,EnS xm.heap.size xm.heap.size Bo wr gv gs (runS (cs.take k)).g (runS (cs.take k)).n vq (runS (cs.take k)).l (runS (cs.take k)).t (.slice none 0 0) [])∧KeptBut xm.heap.size xm.heap.size yb wr)) (fun iv _=>cs.length - (intOf iv).toNat)
 case atStart=>exact ⟨0,Nat.zero_le _,rfl,⟨_,_,_,_,U qD⟩,⟨rfl,rfl,rfl,Nat.le_refl _,fun _ _ _=>rfl⟩⟩
 case round =>
  obtain ⟨k,hk,rfl,ur⟩:=hrel
  obtain ⟨⟨Bo,gv,gs,vq,hE⟩,hkb⟩:=U ur
  have HE:=Y hE
  have HKB:=Y hkb
  have xJ:=Y (below_keptR ((U uy).trans ((U HBY).mono (U uy).size)) hkb (U uy).size (U uy).size)
  clear ur hE hkb
  by_cases xI:k < cs.length
  ·obtain ⟨e,je⟩:∃ e,cs[k]? = some e:=⟨_,yF xI⟩
   obtain ⟨b,off,rfl,O,X⟩:=U HC k e je
   have qE:=Y (cK cs je)
   have uu:(k:Int) < cs.length:=by omega
   obtain ⟨g0,g1,g2,g3,g4,g5,g6,g7⟩:=cm_cells (zb X (U xJ) O)
   obtain ⟨oU,hi2,hi3,hi4⟩:=U HIV k hk
   have htge:=U qw e (yM je)
   have oD:=(U HE).glen
   have hbA:=eB wr (N (yv e.k e.s e.t e.l e.q e.i e.p e.g).toArray 43)
   have HDO:=Y (doE_any e _ (zT (U HE) hbA) oU.good (by omega) (by omega) htge (by omega))
   have HKA:=Y (zk (U HKB) (zB (mb:=xm.heap.size) (B:=xm.heap.size) hbA (yL (U HE).bo (U HE).le)))
   unfold cmV at HDO
   clear X O hbA oU hi2 hi3 hi4 htge oD je
   go_wp2_with fail
   refine (U HDO).mono ?_
   rintro r w5 ⟨rfl,⟨Bo5,gv5,gs5,vq5,qg⟩,kD⟩
   have vJ:=Y qg
   have kj:=Y (zk (U HKA) kD)
   clear qg kD HDO g0 g1 g2 g3 g4 g5 g6 g7
   go_wp2_with fail
   go_roundw
   case rel=>exact ⟨k + 1,by omega,by go_num,⟨Bo5,gv5,gs5,vq5,by rw [U qE]; exact U vJ⟩,U kj⟩
   case measure=>simp [intOf]; omega
  ·have uu:¬ (k:Int) < cs.length:=by omega
   rw [yX (by omega)] at HE
   go_wp2_with fail
   refine U xq _ _ ?_
   clear xq xI uu
   have hI:=run_inv cs jx
   generalize runS cs = s at HE qK hI
   obtain ⟨sn,sl,sg,st⟩:=s
   simp only at HE qK hI
   have kS:=hI.1.good.len
   obtain ⟨av,cv,hv⟩:=zL (U HE).orow
   subst hv
   obtain ⟨ga,gc,hgv⟩:=zL (U HE).grow
   subst hgv
   have HRO:=Y (zR (U HE).orow (by omega))
   have jW:=(U HE).lt
   have HWB:=Y (fun V hV=>withBook_any st sn (.slice av sl.length cv) sl V hV)
   generalize wbT st sl = T at HWB qK
   have HT:Hid (wr.rangeAt xm.heap.size 3 st.vs):=fun j u K=>by
    have:=(U HE).cells (3 + j) u (by
     match j,K with
     | 0,K | 1,K | 2,K | 3,K | 4,K | 5,K | 6,K | 7,K=>exact K
     | j + 8,K=>simp [Tot.vs] at K)
    rwa [Nat.zero_add] at this
   have jG:Hid (wr.there xm.heap.size 3 8):=fun j K=>by
    have:=(U HE).there (3 + j) (by omega)
    rwa [Nat.zero_add] at this
   have HM0:Hid (wr.cell? (yp xm 0) = some (.slice ga gs.length gc)):=(U HE).cells 0 _ rfl
   have vS:Hid (wr.cell? (yp xm 1) = some (H sn)):=(U HE).cells 1 _ rfl
   have vx:Hid (wr.cell? (yp xm 2) = some (.slice av sl.length cv)):=(U HE).cells 2 _ rfl
   have vN:Hid (wr.there w.heap.size 0 11):=dP (ze (U HX).2 (U HBY) (by have:=(U HX).1; omega)) ((U HKB).block _ (by have:=(U HX).1; omega) (by have:=(U HX).1; omega))
   obtain ⟨uf,ue,uh,ui,uj,ug,uq,uo⟩:=T
   simp only at HWB
   have n1:=U vS
   have n2:=U vx
   have n3:wr.cell? (yp xm 3) = some (H st.gr):=U HT 0 _ rfl
   have n4:wr.cell? (yp xm 4) = some (H st.ac):=U HT 1 _ rfl
   have n5:wr.cell? (yp xm 5) = some (H st.rf):=U HT 2 _ rfl
   have n6:wr.cell? (yp xm 6) = some (H st.tr):=U HT 3 _ rfl
   have n7:wr.cell? (yp xm 7) = some (H st.vo):=U HT 4 _ rfl
   have n8:wr.cell? (yp xm 8) = some (H st.no):=U HT 5 _ rfl
   have n9:wr.cell? (yp xm 9) = some (H st.li):=U HT 6 _ rfl
   have pP:wr.cell? (yp xm 10) = some (H st.le):=U HT 7 _ rfl
   refine eF fun hj xq=>?_
   go_wp2_with fail
   refine (U HWB wr (U HRO)).mono ?_
   rintro e V2 ⟨rfl,xS⟩
   clear n1 n2 n3 n4 n5 n6 n7 n8 n9 pP
   have xE:=ze (U jG) xS jW
   obtain ⟨y0,z0,q0⟩:=aY xE (j:=0) (by omega)
   obtain ⟨y1,z1,q1⟩:=aY xE (j:=1) (by omega)
   obtain ⟨y2,z2,q2⟩:=aY xE (j:=2) (by omega)
   obtain ⟨y3,z3,q3⟩:=aY xE (j:=3) (by omega)
   obtain ⟨y4,z4,q4⟩:=aY xE (j:=4) (by omega)
   obtain ⟨y5,z5,q5⟩:=aY xE (j:=5) (by omega)
   obtain ⟨y6,z6,q6⟩:=aY xE (j:=6) (by omega)
   obtain ⟨y7,z7,q7⟩:=aY xE (j:=7) (by omega)
   clear xE
   have uB:=Y xS
   clear xS
   go_wp2_with fail
   refine U xq _ _ ?_
   clear xq z0 q0 z1 q1 z2 q2 z3 q3 z4 q4 z5 q5 z6 q6 z7 q7
   change Code.wp _ _ _ _ (V2.setCells xm.heap.size 3 (Tot.mk uf ue uh ui uj ug uq uo).vs)
   have xS:=U uB
   generalize eV':V2.setCells xm.heap.size 3 (Tot.mk uf ue uh ui uj ug uq uo).vs = V
   have eV:=eV'.symm
   clear eV'
   have xD:=Y xS
   have vK:=Y eV
   have kC:xm.heap.size < V2.heap.size:=yH jW xS.size
   have HC0:Hid (∀ j u,j < 3→wr.cell? (yp xm j) = some u→V.cell? (yp xm j) = some u):=fun j u K hu=>by
    rw [eV]
    refine (World.cell?_setCells_out xm.heap.size _ 3 V2 (yp xm j) (fun _ _=>.inl K)).trans ?_
    exact (xS.cell (p:=(yp xm j)) jW).trans hu
   have kY:Hid (V.rangeAt xm.heap.size 3 (Tot.mk uf ue uh ui uj ug uq uo).vs):=by
    rw [eV]
    exact yV V2 xm.heap.size 3 _ (fun j K=>by
     have:=ze (U jG) xS jW j (by simpa [Tot.vs] using K)
     exact this)
   have qx:Hid (V.there w.heap.size 0 11):=by
    rw [eV]
    exact dP (ze (U vN) xS (by have:=(U HX).1; omega)) (de xm.heap.size w.heap.size (by have:=(U HX).1; omega) _ 3 V2)
   have xA:w.heap.size ≠ xm.heap.size:=by have:=(U HX).1; omega
   have xr:Hid (ym w V):=by
    rw [eV]
    exact zm xm.heap.size (U uy).size _ 3 V2 (eE (U xJ) xS)
   clear eV xS
   have m0:=U HC0 0 _ (by omega) (U HM0)
   have m1:=U HC0 1 _ (by omega) (U vS)
   have m2:=U HC0 2 _ (by omega) (U vx)
   have m3:V.cell? (yp xm 3) = some (H uf):=U kY 0 _ rfl
   have m4:V.cell? (yp xm 4) = some (H ue):=U kY 1 _ rfl
   have m5:V.cell? (yp xm 5) = some (H uh):=U kY 2 _ rfl
   have m6:V.cell? (yp xm 6) = some (H ui):=U kY 3 _ rfl
   have m7:V.cell? (yp xm 7) = some (H uj):=U kY 4 _ rfl
   have m8:V.cell? (yp xm 8) = some (H ug):=U kY 5 _ rfl
   have m9:V.cell? (yp xm 9) = some (H uq):=U kY 6 _ rfl
   have m10:V.cell? (yp xm 10) = some (H uo):=U kY 7 _ rfl
   obtain ⟨y0,z0,q0⟩:=zc (U qx) (j:=0) (by omega)
   obtain ⟨y1,z1,q1⟩:=zc (U qx) (j:=1) (by omega)
   obtain ⟨y2,z2,q2⟩:=zc (U qx) (j:=2) (by omega)
   obtain ⟨y3,z3,q3⟩:=zc (U qx) (j:=3) (by omega)
   obtain ⟨y4,z4,q4⟩:=zc (U qx) (j:=4) (by omega)
   obtain ⟨y5,z5,q5⟩:=zc (U qx) (j:=5) (by omega)
   obtain ⟨y6,z6,q6⟩:=zc (U qx) (j:=6) (by omega)
   obtain ⟨y7,z7,q7⟩:=zc (U qx) (j:=7) (by omega)
   obtain ⟨y8,z8,q8⟩:=zc (U qx) (j:=8) (by omega)
   obtain ⟨y9,z9,q9⟩:=zc (U qx) (j:=9) (by omega)
   obtain ⟨az,z10,q10⟩:=zc (U qx) (j:=10) (by omega)
   have xO:=Y (yV V w.heap.size 0 [.slice ga gs.length gc,H sn,.slice av sl.length cv,H uf,H ue,H uh,H ui,H uj,H ug,H uq,H uo] (fun j K=>U qx j K))
   have vG:=Y (zm w.heap.size hb [.slice ga gs.length gc,H sn,.slice av sl.length cv,H uf,H ue,H uh,H ui,H uj,H ug,H uq,H uo] 0 V (U xr))
   have vM:Hid (∀ {e sz n:Nat} {v:Value} {xs:List Value},wr.ownsRow xm.heap.size e sz v n xs→71 ≠ e→World.ownsRow (V.setCells w.heap.size 0 [.slice ga gs.length gc,H sn,.slice av sl.length cv,H uf,H ue,H uh,H ui,H uj,H ug,H uq,H uo]) w.heap.size e sz v n xs):=fun {e sz n v xs} h hne'=>by
    rw [U vK]
    exact row_end h (zl h (U HE).box hne') (U xD) (by have:=(U HX).1; omega) (U uy).size _ _ _ _
   have HG:Hid (GRa (V.setCells w.heap.size 0 [.slice ga gs.length gc,H sn,.slice av sl.length cv,H uf,H ue,H uh,H ui,H uj,H ug,H uq,H uo]) w.heap.size (.slice ga gs.length gc) sg):=⟨gs,U vM (U HE).grow (by decide),(U HE).glen,fun i g es hg vQ=>U vM ((U HE).geach i g es hg vQ) (by decide),(U HE).glt.2⟩
   have HO:Hid (ORow (V.setCells w.heap.size 0 [.slice ga gs.length gc,H sn,.slice av sl.length cv,H uf,H ue,H uh,H ui,H uj,H ug,H uq,H uo]) w.heap.size (.slice av sl.length cv) sl):=U vM (U HE).orow (by decide)
   clear vM
   go_wp2_with fail
   change bodyPost _ _ _ _ _ (V.setCells w.heap.size 0 [.slice ga gs.length gc,H sn,.slice av sl.length cv,H uf,H ue,H uh,H ui,H uj,H ug,H uq,H uo])
   generalize V.setCells w.heap.size 0 [.slice ga gs.length gc,H sn,.slice av sl.length cv,H uf,H ue,H uh,H ui,H uj,H ug,H uq,H uo] = WE at xO vG HG HO ⊢
   obtain rfl:=U qK
   have d0:WE.cell? (yp w 0) = some (.slice ga gs.length gc):=U xO 0 _ rfl
   have d1:WE.cell? (yp w 1) = some (H sn):=U xO 1 _ rfl
   have d2:WE.cell? (yp w 2) = some (.slice av sl.length cv):=U xO 2 _ rfl
   have d3:WE.cell? (yp w 3) = some (H uf):=U xO 3 _ rfl
   have d4:WE.cell? (yp w 4) = some (H ue):=U xO 4 _ rfl
   have d5:WE.cell? (yp w 5) = some (H uh):=U xO 5 _ rfl
   have d6:WE.cell? (yp w 6) = some (H ui):=U xO 6 _ rfl
   have d7:WE.cell? (yp w 7) = some (H uj):=U xO 7 _ rfl
   have d8:WE.cell? (yp w 8) = some (H ug):=U xO 8 _ rfl
   have d9:WE.cell? (yp w 9) = some (H uq):=U xO 9 _ rfl
   have d10:WE.cell? (yp w 10) = some (H uo):=U xO 10 _ rfl
   refine bodyPost_ret (by simp [results,Tryz.results10,go_sem,d0,d1,d2,d3,d4,d5,d6,d7,d8,d9,d10]; try rfl) rfl ?_
   exact ⟨_,_,rfl,U HG,U HO,U vG⟩
def livS (l:List Od):Int:=l.foldl (fun n o=>wrap64 (n + o.left)) 0
theorem liv_step (l:List Od) {k:Nat} {o:Od} (h:l[k]? = some o):livS (l.take (k + 1)) = wrap64 (livS (l.take k) + o.left):=by
 unfold livS
 rw [List.take_add_one,h,List.foldl_append]; rfl
theorem l04Live_any (next:Int) (v:Value) (l:List Od) (w:World) (hr:RdR Od.vs 6 w v l) :
  Calls Tryz.prog 121 #[.agg #[H next,v]] w fun r w'=>r = yl (.tuple #[H l.length,H (livS l)])∧ym w w':=by
 obtain ⟨a,A,rfl,xC,hc⟩:=hr
 have xo:∀ (k:Nat) (c:Od),l[k]? = some c→∃ b off,a = some (J b off)∧b < w.heap.size∧w.rangeAt b (off + k * 6) c.vs:=by
  intro k c hk
  obtain ⟨b,off,G,D,h3⟩:=hc (by intro h; rw [h] at hk; simp at hk)
  exact ⟨b,off,G,D,h3 k c hk⟩
 have HC:=Y xo
 clear xo hc
 have b1:=eB w (N #[H next,.slice a l.length A] 28)
 have HX:Hid (_∧_∧_):=⟨zg w [H next,.slice a l.length A] 28,b1,zf w (N #[H next,.slice a l.length A] 28)⟩
 clear b1
 go_enter Tryz.func121,Tryz.ntmps121
 refine eF fun hj xq=>?_
 go_wp2_with fail
 refine U xq _ _ ?_
 clear xq
 change Hid (World.rangeAt (w.alloc (N #[H next,.slice a l.length A] 28)) w.heap.size 0 [H next,.slice a l.length A]∧ym w (w.alloc (N #[H next,.slice a l.length A] 28))∧(w.alloc (N #[H next,.slice a l.length A] 28)).heap.size = w.heap.size + 1) at HX
 generalize (w.alloc (N #[H next,.slice a l.length A] 28)) = xm at HX ⊢
 have c1:xm.cell? (yp w 1) = some (.slice a l.length A):=(U HX).1 1 _ rfl
 go_wp2_with fail
 go_loopw [4,5] (fun nv iv wr=>wr = xm∧∃ (k:Nat),k ≤ l.length∧iv = H k∧∃ n:Int,nv = H n∧Hid (n = livS (l.take k))) (fun _ iv _=>l.length - (intOf iv).toNat)
 case atStart=>exact ⟨rfl,0,Nat.zero_le _,rfl,0,rfl,rfl⟩
 case round =>
  obtain ⟨rfl,k,hk,rfl,n,rfl,hn⟩:=hrel
  by_cases xI:k < l.length
  ·obtain ⟨e,je⟩:∃ e,l[k]? = some e:=⟨_,yF xI⟩
   obtain ⟨b,off,rfl,O,X⟩:=U HC k e je
   have qE:=Y (liv_step l je)
   have uu:(k:Int) < l.length:=by omega
   obtain ⟨g0,g1,g2,g3,g4,g5⟩:=zz (zb X (U HX).2.1 O)
   clear je X O
   go_wp2_with fail
   go_roundw
   case rel=>exact ⟨trivial,k + 1,by omega,by go_num,_,rfl,Y (by rw [U qE,U hn])⟩
   case measure=>simp [intOf]; omega
  ·have uu:¬ (k:Int) < l.length:=by omega
   rw [yX (by omega)] at hn
   have HB:=Y (U HX).2.1
   clear HX
   go_wp2_with fail
   try simp only [Exit.inBlock,Exit.then]
   refine bodyPost_ret (by simp [results,Tryz.results121,go_sem]; try rfl) rfl ?_
   exact ⟨by rw [U hn],U HB⟩
def cntM (t:Tot) (e:Ev):Tot :=
 if e.kind = 1 then { t with ac:=wrap64 (t.ac + 1) } else if e.kind = 2 then { t with rf:=wrap64 (t.rf + 1) }
 else if e.kind = 3 then { t with tr:=wrap64 (t.tr + 1),vo:=wrap64 (t.vo + e.qty),no:=wrap64 (t.no + wrap64 (e.qty * e.price)),le:=wrap64 (t.le - e.qty) }
 else if e.kind = 4 then { t with li:=wrap64 (t.li + 1),le:=wrap64 (t.le + e.qty) } else t
theorem l04Count_any (t:Tot) (e:Ev) (w:World) :
  Calls Tryz.prog 120 #[.agg #[H t.gr,H t.ac,H t.rf,H t.tr,H t.vo,H t.no,H t.li,H t.le],.agg (yt e.kind e.cmd.k e.cmd.s e.cmd.t e.cmd.l e.cmd.q e.cmd.i e.cmd.p e.cmd.g e.id e.other e.qty e.price e.reason).toArray] w fun r w'=>r = yl (.agg #[H (cntM t e).gr,H (cntM t e).ac,H (cntM t e).rf,H (cntM t e).tr,H (cntM t e).vo,H (cntM t e).no,H (cntM t e).li,H (cntM t e).le])∧ym w w':=by
 have HM:Hid (cntM t e = if e.kind = 1 then { t with ac:=wrap64 (t.ac + 1) } else if e.kind = 2 then { t with rf:=wrap64 (t.rf + 1) }
  else if e.kind = 3 then { t with tr:=wrap64 (t.tr + 1),vo:=wrap64 (t.vo + e.qty),no:=wrap64 (t.no + wrap64 (e.qty * e.price)),le:=wrap64 (t.le - e.qty) }
  else if e.kind = 4 then { t with li:=wrap64 (t.li + 1),le:=wrap64 (t.le + e.qty) } else t):=rfl
 generalize cntM t e = yk at HM ⊢
 obtain ⟨uf,ue,uh,ui,uj,ug,uq,uo⟩:=t
 simp only at HM ⊢
 have hsf:=sfl
 have xz:=zf w (N #[H uf,H ue,H uh,H ui,H uj,H ug,H uq,H uo] 30)
 have xZ:((w.alloc (N #[H uf,H ue,H uh,H ui,H uj,H ug,H uq,H uo] 30)).alloc (N (yt e.kind e.cmd.k e.cmd.s e.cmd.t e.cmd.l e.cmd.q e.cmd.i e.cmd.p e.cmd.g e.id e.other e.qty e.price e.reason).toArray 46)).heap.size = w.heap.size + 1 + 1:=by rw [zf,xz]
 have jr:(((w.alloc (N #[H uf,H ue,H uh,H ui,H uj,H ug,H uq,H uo] 30)).alloc (N (yt e.kind e.cmd.k e.cmd.s e.cmd.t e.cmd.l e.cmd.q e.cmd.i e.cmd.p e.cmd.g e.id e.other e.qty e.price e.reason).toArray 46)).alloc (N #[H 0,H 0,H 0,H 0,H 0,H 0,H 0,H 0] 30)).heap.size = w.heap.size + 1 + 1 + 1:=by rw [zf,xZ]
 have r1:=zg w [H uf,H ue,H uh,H ui,H uj,H ug,H uq,H uo] 30
 have t1:=zt w [H uf,H ue,H uh,H ui,H uj,H ug,H uq,H uo] 30
 have r2:=zg (w.alloc (N #[H uf,H ue,H uh,H ui,H uj,H ug,H uq,H uo] 30)) (yt e.kind e.cmd.k e.cmd.s e.cmd.t e.cmd.l e.cmd.q e.cmd.i e.cmd.p e.cmd.g e.id e.other e.qty e.price e.reason) 46
 have t3:=zt ((w.alloc (N #[H uf,H ue,H uh,H ui,H uj,H ug,H uq,H uo] 30)).alloc (N (yt e.kind e.cmd.k e.cmd.s e.cmd.t e.cmd.l e.cmd.q e.cmd.i e.cmd.p e.cmd.g e.id e.other e.qty e.price e.reason).toArray 46)) [H 0,H 0,H 0,H 0,H 0,H 0,H 0,H 0] 30
 rw [xZ] at t3
 rw [xz] at r2
 have b1:=eB w (N #[H uf,H ue,H uh,H ui,H uj,H ug,H uq,H uo] 30)
 have b2:Below (w.heap.size + 1) (w.alloc (N #[H uf,H ue,H uh,H ui,H uj,H ug,H uq,H uo] 30)) ((w.alloc (N #[H uf,H ue,H uh,H ui,H uj,H ug,H uq,H uo] 30)).alloc (N (yt e.kind e.cmd.k e.cmd.s e.cmd.t e.cmd.l e.cmd.q e.cmd.i e.cmd.p e.cmd.g e.id e.other e.qty e.price e.reason).toArray 46)):=(Below.refl _ _).alloc (by omega) _
 have b3:Below (w.heap.size + 1 + 1) ((w.alloc (N #[H uf,H ue,H uh,H ui,H uj,H ug,H uq,H uo] 30)).alloc (N (yt e.kind e.cmd.k e.cmd.s e.cmd.t e.cmd.l e.cmd.q e.cmd.i e.cmd.p e.cmd.g e.id e.other e.qty e.price e.reason).toArray 46)) (((w.alloc (N #[H uf,H ue,H uh,H ui,H uj,H ug,H uq,H uo] 30)).alloc (N (yt e.kind e.cmd.k e.cmd.s e.cmd.t e.cmd.l e.cmd.q e.cmd.i e.cmd.p e.cmd.g e.id e.other e.qty e.price e.reason).toArray 46)).alloc (N #[H 0,H 0,H 0,H 0,H 0,H 0,H 0,H 0] 30)):=(Below.refl _ _).alloc (by omega) _
 have HX:Hid (_∧_∧_∧_∧_):=⟨zb (zb r1 b2 (by omega)) b3 (by omega),ze (ze t1 b2 (by omega)) b3 (by omega),t3,(b1.trans (b2.mono (by omega))).trans (b3.mono (by omega)),Nat.le_of_eq jr.symm⟩
 have vK:=Y (zb r2 b3 (by omega))
 clear xz xZ jr r1 r2 t1 t3 b1 b2 b3
 go_enter Tryz.func120,Tryz.ntmps120
 refine eF fun hj xq=>?_
 go_wp2_with fail
 refine U xq _ _ ?_
 clear xq
 generalize (((w.alloc (N #[H uf,H ue,H uh,H ui,H uj,H ug,H uq,H uo] 30)).alloc (N (yt e.kind e.cmd.k e.cmd.s e.cmd.t e.cmd.l e.cmd.q e.cmd.i e.cmd.p e.cmd.g e.id e.other e.qty e.price e.reason).toArray 46)).alloc (N #[H 0,H 0,H 0,H 0,H 0,H 0,H 0,H 0] 30)) = xm at HX vK ⊢
 have HX:Hid (xm.rangeAt w.heap.size 0 [H uf,H ue,H uh,H ui,H uj,H ug,H uq,H uo]∧xm.there w.heap.size 0 8∧xm.there (w.heap.size + 1 + 1) 0 8∧ym w xm∧w.heap.size + 1 + 1 + 1 ≤ xm.heap.size):=U HX
 obtain ⟨g0,g1,g2,g3,g4,g5,g6,g7,g8,g9,qy,vI,ub,kO⟩:=dq (U vK)
 clear g1 g2 g3 g4 g5 g6 g7 g8 g9 qy kO vK
 simp only [Nat.zero_add] at vI ub
 have d0:xm.cell? (yp w 0) = some (H uf):=(U HX).1 0 _ rfl
 have p0:xm.frozen? (yp w 0) = false:=by have:=((U HX).2.1 0 (by omega)).2; rwa [Nat.zero_add] at this
 have d1:xm.cell? (yp w 1) = some (H ue):=(U HX).1 1 _ rfl
 have p1:xm.frozen? (yp w 1) = false:=by have:=((U HX).2.1 1 (by omega)).2; rwa [Nat.zero_add] at this
 have d2:xm.cell? (yp w 2) = some (H uh):=(U HX).1 2 _ rfl
 have p2:xm.frozen? (yp w 2) = false:=by have:=((U HX).2.1 2 (by omega)).2; rwa [Nat.zero_add] at this
 have d3:xm.cell? (yp w 3) = some (H ui):=(U HX).1 3 _ rfl
 have p3:xm.frozen? (yp w 3) = false:=by have:=((U HX).2.1 3 (by omega)).2; rwa [Nat.zero_add] at this
 have d4:xm.cell? (yp w 4) = some (H uj):=(U HX).1 4 _ rfl
 have p4:xm.frozen? (yp w 4) = false:=by have:=((U HX).2.1 4 (by omega)).2; rwa [Nat.zero_add] at this
 have d5:xm.cell? (yp w 5) = some (H ug):=(U HX).1 5 _ rfl
 have p5:xm.frozen? (yp w 5) = false:=by have:=((U HX).2.1 5 (by omega)).2; rwa [Nat.zero_add] at this
 have d6:xm.cell? (yp w 6) = some (H uq):=(U HX).1 6 _ rfl
 have p6:xm.frozen? (yp w 6) = false:=by have:=((U HX).2.1 6 (by omega)).2; rwa [Nat.zero_add] at this
 have d7:xm.cell? (yp w 7) = some (H uo):=(U HX).1 7 _ rfl
 have p7:xm.frozen? (yp w 7) = false:=by have:=((U HX).2.1 7 (by omega)).2; rwa [Nat.zero_add] at this
 refine eF fun hj xq=>?_
 have HT:Hid (∀ (V:World) (T:Tot) (u5 u6 u7 u8 u9 u10 u11 u12 u13 u14 u15 u16 u17 u18 u19 u20 u21 u22 u23 u24 u25 u26 u27 u28 u29 u30 u31 u32 u33 u34 u35 u36 u37 u38 u39 u40 u41 u42 u43 u44 u45 u46 u47 u48 u49 u50 u51 u52 u53 u54 u55 u56 u57:Value),yk = T→(V.rangeAt w.heap.size 0 T.vs∧V.there w.heap.size 0 8∧V.there (w.heap.size + 1 + 1) 0 8∧ym w V∧w.heap.size + 1 + 1 + 1 ≤ V.heap.size)→hj { tmps:=#[.agg #[H uf,H ue,H uh,H ui,H uj,H ug,H uq,H uo],.agg (yt e.kind e.cmd.k e.cmd.s e.cmd.t e.cmd.l e.cmd.q e.cmd.i e.cmd.p e.cmd.g e.id e.other e.qty e.price e.reason).toArray,yn w 0,I (w.heap.size + 1) 0,I (w.heap.size + 1 + 1) 0,u5,u6,u7,u8,u9,u10,u11,u12,u13,u14,u15,u16,u17,u18,u19,u20,u21,u22,u23,u24,u25,u26,u27,u28,u29,u30,u31,u32,u33,u34,u35,u36,u37,u38,u39,u40,u41,u42,u43,u44,u45,u46,u47,u48,u49,u50,u51,u52,u53,u54,u55,u56,u57,M],defers:=[] } V):=by
  intro V T u5 u6 u7 u8 u9 u10 u11 u12 u13 u14 u15 u16 u17 u18 u19 u20 u21 u22 u23 u24 u25 u26 u27 u28 u29 u30 u31 u32 u33 u34 u35 u36 u37 u38 u39 u40 u41 u42 u43 u44 u45 u46 u47 u48 u49 u50 u51 u52 u53 u54 u55 u56 u57 hMT ur
  have HY:=Y ur
  have oh:=Y hMT
  clear ur hMT HM HX g0 vI ub d0 p0 d1 p1 d2 p2 d3 p3 d4 p4 d5 p5 d6 p6 d7 p7
  obtain ⟨agr,aac,arf,atr,avo,ano,ali,ale⟩:=T
  have c0:V.cell? (yp w 0) = some (H agr):=(U HY).1 0 _ rfl
  obtain ⟨y0,z0,q0⟩:=zc (U HY).2.2.1 (j:=0) (by omega)
  have c1:V.cell? (yp w 1) = some (H aac):=(U HY).1 1 _ rfl
  obtain ⟨y1,z1,q1⟩:=zc (U HY).2.2.1 (j:=1) (by omega)
  have c2:V.cell? (yp w 2) = some (H arf):=(U HY).1 2 _ rfl
  obtain ⟨y2,z2,q2⟩:=zc (U HY).2.2.1 (j:=2) (by omega)
  have c3:V.cell? (yp w 3) = some (H atr):=(U HY).1 3 _ rfl
  obtain ⟨y3,z3,q3⟩:=zc (U HY).2.2.1 (j:=3) (by omega)
  have c4:V.cell? (yp w 4) = some (H avo):=(U HY).1 4 _ rfl
  obtain ⟨y4,z4,q4⟩:=zc (U HY).2.2.1 (j:=4) (by omega)
  have c5:V.cell? (yp w 5) = some (H ano):=(U HY).1 5 _ rfl
  obtain ⟨y5,z5,q5⟩:=zc (U HY).2.2.1 (j:=5) (by omega)
  have c6:V.cell? (yp w 6) = some (H ali):=(U HY).1 6 _ rfl
  obtain ⟨y6,z6,q6⟩:=zc (U HY).2.2.1 (j:=6) (by omega)
  have c7:V.cell? (yp w 7) = some (H ale):=(U HY).1 7 _ rfl
  obtain ⟨y7,z7,q7⟩:=zc (U HY).2.2.1 (j:=7) (by omega)
  have xO:=Y (yV V (w.heap.size + 1 + 1) 0 [H agr,H aac,H arf,H atr,H avo,H ano,H ali,H ale] (fun j K=>(U HY).2.2.1 j K))
  have vG:=Y (zm (w.heap.size + 1 + 1) (by omega) [H agr,H aac,H arf,H atr,H avo,H ano,H ali,H ale] 0 V (U HY).2.2.2.1)
  refine U xq _ _ ?_
  clear xq
  go_wp2_with fail
  change bodyPost _ _ _ _ _ (V.setCells (w.heap.size + 1 + 1) 0 [H agr,H aac,H arf,H atr,H avo,H ano,H ali,H ale])
  generalize V.setCells (w.heap.size + 1 + 1) 0 [H agr,H aac,H arf,H atr,H avo,H ano,H ali,H ale] = WE at xO vG ⊢
  obtain ⟨d0,d1,d2,d3,d4,d5,d6,d7⟩:=yB (U xO)
  refine bodyPost_ret (by simp [results,Tryz.results120,go_sem,d0,d1,d2,d3,d4,d5,d6,d7]; try rfl) rfl ?_
  exact ⟨by rw [U oh],U vG⟩
 clear xq
 by_cases G:e.kind = 1
 ·have b1:(e.kind == 1) = true:=by simpa using G
  have HE:=Y ((U HM).trans (if_pos G))
  clear HM G
  go_wp2_with fail
  exact U HT _ (Tot.mk uf (wrap64 (ue + 1)) uh ui uj ug uq uo) _ _ _ _ _ _ _ _ _ _ _ _ _ _ _ _ _ _ _ _ _ _ _ _ _ _ _ _ _ _ _ _ _ _ _ _ _ _ _ _ _ _ _ _ _ _ _ _ _ _ _ _ _ (U HE) (keepB (U HX) 1 (by simp) _)
 have b1:(e.kind == 1) = false:=by rw [xb]; exact G
 by_cases D:e.kind = 2
 ·have b2:(e.kind == 2) = true:=by simpa using D
  have HE:=Y ((U HM).trans ((if_neg G).trans (if_pos D)))
  clear HM G D
  go_wp2_with fail
  exact U HT _ (Tot.mk uf ue (wrap64 (uh + 1)) ui uj ug uq uo) _ _ _ _ _ _ _ _ _ _ _ _ _ _ _ _ _ _ _ _ _ _ _ _ _ _ _ _ _ _ _ _ _ _ _ _ _ _ _ _ _ _ _ _ _ _ _ _ _ _ _ _ _ (U HE) (keepB (U HX) 2 (by simp) _)
 have b2:(e.kind == 2) = false:=by rw [xb]; exact D
 by_cases h3:e.kind = 3
 ·have b3:(e.kind == 3) = true:=by simpa using h3
  have HE:=Y ((U HM).trans ((if_neg G).trans ((if_neg D).trans (if_pos h3))))
  clear HM G D h3
  go_wp2_with fail
  exact U HT _ (Tot.mk uf ue uh (wrap64 (ui + 1)) (wrap64 (uj + e.qty)) (wrap64 (ug + wrap64 (e.qty * e.price))) uq (wrap64 (uo - e.qty))) _ _ _ _ _ _ _ _ _ _ _ _ _ _ _ _ _ _ _ _ _ _ _ _ _ _ _ _ _ _ _ _ _ _ _ _ _ _ _ _ _ _ _ _ _ _ _ _ _ _ _ _ _ (U HE) (keepB (keepB (keepB (keepB (U HX) 3 (by simp) _) 4 (by simp) _) 5 (by simp) _) 7 (by simp) _)
 have b3:(e.kind == 3) = false:=by rw [xb]; exact h3
 by_cases h4:e.kind = 4
 ·have b4:(e.kind == 4) = true:=by simpa using h4
  have HE:=Y ((U HM).trans ((if_neg G).trans ((if_neg D).trans ((if_neg h3).trans (if_pos h4)))))
  clear HM G D h3 h4
  go_wp2_with fail
  exact U HT _ (Tot.mk uf ue uh ui uj ug (wrap64 (uq + 1)) (wrap64 (uo + e.qty))) _ _ _ _ _ _ _ _ _ _ _ _ _ _ _ _ _ _ _ _ _ _ _ _ _ _ _ _ _ _ _ _ _ _ _ _ _ _ _ _ _ _ _ _ _ _ _ _ _ _ _ _ _ (U HE) (keepB (keepB (U HX) 6 (by simp) _) 7 (by simp) _)
 have b4:(e.kind == 4) = false:=by rw [xb]; exact h4
 have HE:=Y ((U HM).trans ((if_neg G).trans ((if_neg D).trans ((if_neg h3).trans (if_neg h4)))))
 clear HM G D h3 h4
 go_wp2_with fail
 exact U HT _ (Tot.mk uf ue uh ui uj ug uq uo) _ _ _ _ _ _ _ _ _ _ _ _ _ _ _ _ _ _ _ _ _ _ _ _ _ _ _ _ _ _ _ _ _ _ _ _ _ _ _ _ _ _ _ _ _ _ _ _ _ _ _ _ _ (U HE) (U HX)
end Go.Proofs.YtbakanofkghmiaaGreat
