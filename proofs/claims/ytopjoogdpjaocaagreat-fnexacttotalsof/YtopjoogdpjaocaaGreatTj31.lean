/-
  RunScript by the program: proved by walking the function.
-/
import Derived.Test.YtopjoogdpjaocaaGreatTj29
set_option linter.unusedVariables false
set_option maxHeartbeats 6400000
set_option maxRecDepth 100000
namespace Go.Proofs.YtopjoogdpjaocaaGreat
open Go.RowKit
section
variable {C:Nat→Value→Prop} {mb:Nat} {tv:List Value} {base W W':World} {x:List Bool} {f:Nat→Value}
end
theorem below_keptR {mb B:Nat} {w Y W:World} (h1:Below w.heap.size w Y) (h2:KeptBut mb B Y W) (hB:w.heap.size ≤ B) (hm:w.heap.size ≤ mb):Below w.heap.size w W :=
 ⟨h2.os.trans h1.os,h2.tape.trans h1.tape,h2.output.trans h1.output,Nat.le_trans h1.size h2.size,fun k hk=>(h2.block k (by omega) (by omega)).trans (h1.block k hk)⟩
theorem row_end {e sz n mb R B C:Nat} {v:Value} {xs:List Value} {W V2:World} (h:W.ownsRow B e sz v n xs) (hm:some mb ≠ v.ownBlock) (hb:Below W.heap.size W V2) (hR:R < B) (hC:C ≤ B) (us vs:List Value) (o1 o2:Nat):((V2.setCells mb o1 us).setCells R o2 vs).ownsRow C e sz v n xs:=by
 have h1:V2.ownsRow B e sz v n xs:=World.ownsRow.kept (row:=none) h (zaa hb (Nat.le_refl _)) (by cases v.ownBlock <;> simp)
 have h2:=zap hm us o1 V2 h1
 have h3:=zap (b:=R) (fun e'=>by have:=(h.lt R e'.symm).1; omega) vs o2 _ h2
 refine ⟨h3.1,?_⟩
 rcases h3.2 with k1 | ⟨g',c',cur,k1,k2,k3⟩
 ·exact .inl k1
 ·exact .inr ⟨g',c',cur,k1,Nat.le_trans hC k2,k3⟩
structure GRs (W:World) (B:Nat) (gv:Value) (gl:List (List Ev)):Prop where
 ex:∃ gs:List Value,GRow W B gv gs∧gs.length = gl.length∧∀ (i:Nat) (g:Value) (es:List Ev),gs[i]? = some g→gl[i]? = some es→ERow W B g es
structure GRa (W:World) (B:Nat) (gv:Value) (gl:List (List Ev)):Prop where
 ex:∃ gs:List Value,GRow W B gv gs∧gs.length = gl.length∧(∀ (i:Nat) (g:Value) (es:List Ev),gs[i]? = some g→gl[i]? = some es→ERow W B g es)∧gs.Pairwise fun g g'=>∀ b b',g.ownBlock = some b→g'.ownBlock = some b'→b < b'
set_option maxRecDepth 100000 in
set_option maxHeartbeats 1600000 in
theorem implRunScript_any (v:Value) (cs:List Cm) (w:World) (hr:RdR Cm.vs 8 w v cs) (htg:∀ c ∈ cs,c.g.size ≤ maxLen) :
  Calls Tryz.prog 17 #[v] w fun e w'=>∃ gv vq,e = .returned (.tuple #[.agg #[gv,.int .i64 (rsF cs).n,vq,.int .i64 (rsF cs).t.gr,.int .i64 (rsF cs).t.ac,.int .i64 (rsF cs).t.rf,.int .i64 (rsF cs).t.tr,.int .i64 (rsF cs).t.vo,.int .i64 (rsF cs).t.no,.int .i64 (rsF cs).t.li,.int .i64 (rsF cs).t.le],.int .i64 (cntF cs.length)])∧GRa w' w.heap.size gv (rsF cs).g∧ORow w' w.heap.size vq (rsF cs).l∧Below w.heap.size w w':=by
 have HR:=hide hr
 have HTG:=hide htg
 obtain ⟨a,cap,rfl,hlen,hc⟩:=hr
 have hcell:∀ (k:Nat) (c:Cm),cs[k]? = some c→∃ b off,a = some ⟨b,off,none⟩∧b < w.heap.size∧w.rangeAt b (off + k * 8) c.vs:=by
  intro k c hk
  obtain ⟨b,off,h1,h2,h3⟩:=hc (by intro h; rw [h] at hk; simp at hk)
  exact ⟨b,off,h1,h2,h3 k c hk⟩
 have HC:=hide hcell
 clear hcell hc htg
 have hsf:=sfl
 have HCF:=hide (fun W=>zch cs.length hlen W)
 have HCZ:=hide (@cntF_zero cs.length)
 have HF:Hid (rsF cs = if cs.length ≤ 200 then { runS cs with t:=wbT (runS cs).t (runS cs).l } else ⟨0,[],[],tot0⟩):=rfl
 generalize rsF cs = F at HF ⊢
 generalize cntF cs.length = CF at HCF HCZ ⊢
 have hbX:Below w.heap.size w (w.alloc (Obj.cells #[.slice none 0 0,.int .i64 0,.slice none 0 0,.int .i64 0,.int .i64 0,.int .i64 0,.int .i64 0,.int .i64 0,.int .i64 0,.int .i64 0,.int .i64 0] 48)):=(Below.refl _ _).alloc (Nat.le_refl _) _
 have HX:Hid ((w.alloc (Obj.cells #[.slice none 0 0,.int .i64 0,.slice none 0 0,.int .i64 0,.int .i64 0,.int .i64 0,.int .i64 0,.int .i64 0,.int .i64 0,.int .i64 0,.int .i64 0] 48)).heap.size = w.heap.size + 1∧World.there (w.alloc (Obj.cells #[.slice none 0 0,.int .i64 0,.slice none 0 0,.int .i64 0,.int .i64 0,.int .i64 0,.int .i64 0,.int .i64 0,.int .i64 0,.int .i64 0,.int .i64 0] 48)) w.heap.size 0 11):=⟨ze _ _,zw w [.slice none 0 0,.int .i64 0,.slice none 0 0,.int .i64 0,.int .i64 0,.int .i64 0,.int .i64 0,.int .i64 0,.int .i64 0,.int .i64 0,.int .i64 0] 48⟩
 have HBX:=hide hbX
 clear hbX
 go_enter Tryz.func17,Tryz.ntmps17
 refine wp_seq_k fun K hK=>?_
 have HK1:=hide hK
 clear hK
 go_wp2_with fail
 refine za HK1 _ _ ?_
 clear HK1
 generalize (w.alloc (Obj.cells #[.slice none 0 0,.int .i64 0,.slice none 0 0,.int .i64 0,.int .i64 0,.int .i64 0,.int .i64 0,.int .i64 0,.int .i64 0,.int .i64 0,.int .i64 0] 48)) = X at HX HBX ⊢
 refine wp_seq_k fun K hK=>?_
 have HK1:=hide hK
 clear hK
 go_wp2_with fail
 refine (za HCF X).mono ?_
 rintro e w3 ⟨rfl,hw3⟩
 rw [hw3]
 clear hw3 w3
 by_cases h200:cs.length ≤ 200
 rotate_left
 ·have hne:CF ≠ 0:=fun e=>h200 ((za HCZ).1 e)
  have hneb:(CF != 0) = true:=by simpa using hne
  have HF1:Hid (F = ⟨0,[],[],tot0⟩):=(za HF).trans (if_neg h200)
  obtain ⟨y0,z0,q0⟩:=zc (za HX).2 (j:=0) (by omega)
  obtain ⟨y1,z1,q1⟩:=zc (za HX).2 (j:=1) (by omega)
  obtain ⟨y2,z2,q2⟩:=zc (za HX).2 (j:=2) (by omega)
  obtain ⟨y3,z3,q3⟩:=zc (za HX).2 (j:=3) (by omega)
  obtain ⟨y4,z4,q4⟩:=zc (za HX).2 (j:=4) (by omega)
  obtain ⟨y5,z5,q5⟩:=zc (za HX).2 (j:=5) (by omega)
  obtain ⟨y6,z6,q6⟩:=zc (za HX).2 (j:=6) (by omega)
  obtain ⟨y7,z7,q7⟩:=zc (za HX).2 (j:=7) (by omega)
  obtain ⟨y8,z8,q8⟩:=zc (za HX).2 (j:=8) (by omega)
  obtain ⟨y9,z9,q9⟩:=zc (za HX).2 (j:=9) (by omega)
  obtain ⟨y10,z10,q10⟩:=zc (za HX).2 (j:=10) (by omega)
  have HR8:=hide (World.rangeAt_setCells_same X w.heap.size 0 [.slice none 0 0,.int .i64 0,.slice none 0 0,.int .i64 0,.int .i64 0,.int .i64 0,.int .i64 0,.int .i64 0,.int .i64 0,.int .i64 0,.int .i64 0] (fun j hj=>(za HX).2 j hj))
  have HB8:=hide (zm w.heap.size (Nat.le_refl _) [.slice none 0 0,.int .i64 0,.slice none 0 0,.int .i64 0,.int .i64 0,.int .i64 0,.int .i64 0,.int .i64 0,.int .i64 0,.int .i64 0,.int .i64 0] 0 X (za HBX))
  clear HF HCF HCZ HC
  go_wp2_with fail
  change bodyPost _ _ _ _ _ (X.setCells w.heap.size 0 [.slice none 0 0,.int .i64 0,.slice none 0 0,.int .i64 0,.int .i64 0,.int .i64 0,.int .i64 0,.int .i64 0,.int .i64 0,.int .i64 0,.int .i64 0])
  generalize X.setCells w.heap.size 0 [.slice none 0 0,.int .i64 0,.slice none 0 0,.int .i64 0,.int .i64 0,.int .i64 0,.int .i64 0,.int .i64 0,.int .i64 0,.int .i64 0,.int .i64 0] = WE at HR8 HB8 ⊢
  obtain rfl:=za HF1
  have d0:WE.cell? ⟨w.heap.size,0,none⟩ = some (.slice none 0 0):=za HR8 0 _ rfl
  have d1:WE.cell? ⟨w.heap.size,1,none⟩ = some (.int .i64 0):=za HR8 1 _ rfl
  have d2:WE.cell? ⟨w.heap.size,2,none⟩ = some (.slice none 0 0):=za HR8 2 _ rfl
  have d3:WE.cell? ⟨w.heap.size,3,none⟩ = some (.int .i64 0):=za HR8 3 _ rfl
  have d4:WE.cell? ⟨w.heap.size,4,none⟩ = some (.int .i64 0):=za HR8 4 _ rfl
  have d5:WE.cell? ⟨w.heap.size,5,none⟩ = some (.int .i64 0):=za HR8 5 _ rfl
  have d6:WE.cell? ⟨w.heap.size,6,none⟩ = some (.int .i64 0):=za HR8 6 _ rfl
  have d7:WE.cell? ⟨w.heap.size,7,none⟩ = some (.int .i64 0):=za HR8 7 _ rfl
  have d8:WE.cell? ⟨w.heap.size,8,none⟩ = some (.int .i64 0):=za HR8 8 _ rfl
  have d9:WE.cell? ⟨w.heap.size,9,none⟩ = some (.int .i64 0):=za HR8 9 _ rfl
  have d10:WE.cell? ⟨w.heap.size,10,none⟩ = some (.int .i64 0):=za HR8 10 _ rfl
  refine bodyPost_ret (by simp [results,Tryz.results17,go_sem,d0,d1,d2,d3,d4,d5,d6,d7,d8,d9,d10]; try rfl) rfl ?_
  exact ⟨_,_,rfl,⟨[],World.ownsRow_nil _ _ _ _,rfl,(fun i g es hg=>by simp at hg),List.Pairwise.nil⟩,World.ownsRow_nil _ _ _ _,za HB8⟩
 have hz:CF = 0:=(za HCZ).2 h200
 have hzb:(CF != 0) = false:=by rw [hz]; rfl
 have HF1:Hid (F = { runS cs with t:=wbT (runS cs).t (runS cs).l }):=(za HF).trans (if_pos h200)
 have HIV:=hide (run_take cs h200)
 subst hz
 clear HF HCF HCZ
 go_wp2_with fail
 refine za HK1 _ _ ?_
 clear HK1
 have hbY:Below X.heap.size X (X.alloc (Obj.cells #[.slice none 0 0,.int .i64 1,.slice none 0 0,.int .i64 0,.int .i64 0,.int .i64 0,.int .i64 0,.int .i64 0,.int .i64 0,.int .i64 0,.int .i64 0,.slice none 0 0] 69)):=(Below.refl _ _).alloc (Nat.le_refl _) _
 have HEN:Hid (EnS X.heap.size X.heap.size (X.alloc (Obj.cells #[.slice none 0 0,.int .i64 1,.slice none 0 0,.int .i64 0,.int .i64 0,.int .i64 0,.int .i64 0,.int .i64 0,.int .i64 0,.int .i64 0,.int .i64 0,.slice none 0 0] 69)).heap.size (X.alloc (Obj.cells #[.slice none 0 0,.int .i64 1,.slice none 0 0,.int .i64 0,.int .i64 0,.int .i64 0,.int .i64 0,.int .i64 0,.int .i64 0,.int .i64 0,.int .i64 0,.slice none 0 0] 69)) (.slice none 0 0) [] [] 1 (.slice none 0 0) [] tot0 (.slice none 0 0) []):=⟨zh X [.slice none 0 0,.int .i64 1,.slice none 0 0,.int .i64 0,.int .i64 0,.int .i64 0,.int .i64 0,.int .i64 0,.int .i64 0,.int .i64 0,.int .i64 0,.slice none 0 0] _,zw X [.slice none 0 0,.int .i64 1,.slice none 0 0,.int .i64 0,.int .i64 0,.int .i64 0,.int .i64 0,.int .i64 0,.int .i64 0,.int .i64 0,.int .i64 0,.slice none 0 0] _,World.ownsRow_nil _ _ _ _,rfl,fun i g es hg=>by simp at hg,⟨fun g hg=>by simp at hg,List.Pairwise.nil⟩,World.ownsRow_nil _ _ _ _,World.ownsRow_nil _ _ _ _,⟨_,heap_alloc_new X _⟩,hbY.size,Nat.le_refl _⟩
 have HBY:=hide hbY
 clear hbY
 refine wp_seq_k fun K hK=>?_
 have HK1:=hide hK
 clear hK
 go_wp2_with fail
 refine za HK1 _ _ ?_
 clear HK1
 generalize (X.alloc (Obj.cells #[.slice none 0 0,.int .i64 1,.slice none 0 0,.int .i64 0,.int .i64 0,.int .i64 0,.int .i64 0,.int .i64 0,.int .i64 0,.int .i64 0,.int .i64 0,.slice none 0 0] 69)) = Y at HEN HBY ⊢
 refine wp_seq_k fun K hK=>?_
 have HK1:=hide hK
 clear hK
 go_wp2_with fail
 go_loopw [20] (fun iv wr=>∃ (k:Nat),k ≤ cs.length∧iv = .int .i64 k∧Hid ((∃ Bo gv gs vq,EnS X.heap.size X.heap.size Bo wr gv gs (runS (cs.take k)).g (runS (cs.take k)).n vq (runS (cs.take k)).l (runS (cs.take k)).t (.slice none 0 0) [])∧KeptBut X.heap.size X.heap.size Y wr)) (fun iv _=>cs.length - (intOf iv).toNat)
 case atStart=>exact ⟨0,Nat.zero_le _,rfl,⟨_,_,_,_,za HEN⟩,⟨rfl,rfl,rfl,Nat.le_refl _,fun _ _ _=>rfl⟩⟩
 case round =>
  obtain ⟨k,hk,rfl,hin⟩:=hrel
  obtain ⟨⟨Bo,gv,gs,vq,hE⟩,hkb⟩:=za hin
  have HE:=hide hE
  have HKB:=hide hkb
  have HBW:=hide (below_keptR ((za HBX).trans ((za HBY).mono (za HBX).size)) hkb (za HBX).size (za HBX).size)
  clear hin hE hkb
  by_cases hlt:k < cs.length
  ·obtain ⟨e,hke⟩:∃ e,cs[k]? = some e:=⟨_,List.getElem?_eq_getElem hlt⟩
   obtain ⟨b,off,rfl,hb,hcl⟩:=za HC k e hke
   have HNX:=hide (zcf cs hke)
   have hlt':(k:Int) < cs.length:=by omega
   obtain ⟨g0,g1,g2,g3,g4,g5,g6,g7⟩:=cm_cells (zb hcl (za HBW) hb)
   obtain ⟨hi1,hi2,hi3,hi4⟩:=za HIV k hk
   have htge:=za HTG e (List.mem_of_getElem? hke)
   have hgl:=(za HE).glen
   have hbA:Below wr.heap.size wr (wr.alloc (Obj.cells #[.int .i64 e.k,.int .i64 e.s,.int .i64 e.t,.int .i64 e.l,.int .i64 e.q,.int .i64 e.i,.float .f64 e.p,.string e.g] 39)):=(Below.refl _ _).alloc (Nat.le_refl _) _
   have HDO:=hide (doE_any e _ (zO (za HE) hbA) hi1.good (by omega) (by omega) htge (by omega))
   have HKA:=hide (zi (za HKB) (zA (mb:=X.heap.size) (B:=X.heap.size) hbA (Nat.le_trans (za HE).bo (za HE).le)))
   unfold cmV at HDO
   clear hcl hb hbA hi1 hi2 hi3 hi4 htge hgl hke
   go_wp2_with fail
   refine (za HDO).mono ?_
   rintro r w5 ⟨rfl,⟨Bo5,gv5,gs5,vq5,hE5⟩,hk5⟩
   have HE5:=hide hE5
   have HK5:=hide (zi (za HKA) hk5)
   clear hE5 hk5 HDO g0 g1 g2 g3 g4 g5 g6 g7
   go_wp2_with fail
   go_roundw
   case rel=>exact ⟨k + 1,by omega,by go_num,⟨Bo5,gv5,gs5,vq5,by rw [za HNX]; exact za HE5⟩,za HK5⟩
   case measure=>simp [intOf]; omega
  ·have hlt':¬ (k:Int) < cs.length:=by omega
   rw [List.take_of_length_le (by omega)] at HE
   go_wp2_with fail
   refine za HK1 _ _ ?_
   clear HK1 hlt hlt'
   have hI:=run_inv cs h200
   generalize runS cs = s at HE HF1 hI
   obtain ⟨sn,sl,sg,st⟩:=s
   simp only at HE HF1 hI
   have hl20:=hI.1.good.len
   obtain ⟨av,cv,hv⟩:=zV (za HE).orow
   subst hv
   obtain ⟨ga,gc,hgv⟩:=zV (za HE).grow
   subst hgv
   have HRO:=hide (zM (za HE).orow (by omega))
   have hmX:=(za HE).lt
   have HWB:=hide (fun V hV=>withBook_any st sn (.slice av sl.length cv) sl V hV)
   generalize wbT st sl = T at HWB HF1
   have HT:Hid (wr.rangeAt X.heap.size 3 st.vs):=fun j u hj=>by
    have:=(za HE).cells (3 + j) u (by
     match j,hj with
     | 0,hj | 1,hj | 2,hj | 3,hj | 4,hj | 5,hj | 6,hj | 7,hj=>exact hj
     | j + 8,hj=>simp [Tot.vs] at hj)
    rwa [Nat.zero_add] at this
   have HTH:Hid (wr.there X.heap.size 3 8):=fun j hj=>by
    have:=(za HE).there (3 + j) (by omega)
    rwa [Nat.zero_add] at this
   have HM0:Hid (wr.cell? ⟨X.heap.size,0,none⟩ = some (.slice ga gs.length gc)):=(za HE).cells 0 _ rfl
   have HM1:Hid (wr.cell? ⟨X.heap.size,1,none⟩ = some (.int .i64 sn)):=(za HE).cells 1 _ rfl
   have HM2:Hid (wr.cell? ⟨X.heap.size,2,none⟩ = some (.slice av sl.length cv)):=(za HE).cells 2 _ rfl
   have HTR:Hid (wr.there w.heap.size 0 11):=there_blk (zf (za HX).2 (za HBY) (by have:=(za HX).1; omega)) ((za HKB).block _ (by have:=(za HX).1; omega) (by have:=(za HX).1; omega))
   obtain ⟨tgr,tac,trf,ttr,tvo,tno,tli,tle⟩:=T
   simp only at HWB
   have n1:=za HM1
   have n2:=za HM2
   have n3:wr.cell? ⟨X.heap.size,3,none⟩ = some (.int .i64 st.gr):=za HT 0 _ rfl
   have n4:wr.cell? ⟨X.heap.size,4,none⟩ = some (.int .i64 st.ac):=za HT 1 _ rfl
   have n5:wr.cell? ⟨X.heap.size,5,none⟩ = some (.int .i64 st.rf):=za HT 2 _ rfl
   have n6:wr.cell? ⟨X.heap.size,6,none⟩ = some (.int .i64 st.tr):=za HT 3 _ rfl
   have n7:wr.cell? ⟨X.heap.size,7,none⟩ = some (.int .i64 st.vo):=za HT 4 _ rfl
   have n8:wr.cell? ⟨X.heap.size,8,none⟩ = some (.int .i64 st.no):=za HT 5 _ rfl
   have n9:wr.cell? ⟨X.heap.size,9,none⟩ = some (.int .i64 st.li):=za HT 6 _ rfl
   have n10:wr.cell? ⟨X.heap.size,10,none⟩ = some (.int .i64 st.le):=za HT 7 _ rfl
   refine wp_seq_k fun K hK=>?_
   have HK1:=hide hK
   clear hK
   go_wp2_with fail
   refine (za HWB wr (za HRO)).mono ?_
   rintro e V2 ⟨rfl,hb2⟩
   clear n1 n2 n3 n4 n5 n6 n7 n8 n9 n10
   have hth:=zf (za HTH) hb2 hmX
   obtain ⟨y0,z0,q0⟩:=zZ hth (j:=0) (by omega)
   obtain ⟨y1,z1,q1⟩:=zZ hth (j:=1) (by omega)
   obtain ⟨y2,z2,q2⟩:=zZ hth (j:=2) (by omega)
   obtain ⟨y3,z3,q3⟩:=zZ hth (j:=3) (by omega)
   obtain ⟨y4,z4,q4⟩:=zZ hth (j:=4) (by omega)
   obtain ⟨y5,z5,q5⟩:=zZ hth (j:=5) (by omega)
   obtain ⟨y6,z6,q6⟩:=zZ hth (j:=6) (by omega)
   obtain ⟨y7,z7,q7⟩:=zZ hth (j:=7) (by omega)
   clear hth
   have HB0:=hide hb2
   clear hb2
   go_wp2_with fail
   refine za HK1 _ _ ?_
   clear HK1 z0 q0 z1 q1 z2 q2 z3 q3 z4 q4 z5 q5 z6 q6 z7 q7
   change Code.wp _ _ _ _ (V2.setCells X.heap.size 3 (Tot.mk tgr tac trf ttr tvo tno tli tle).vs)
   have hb2:=za HB0
   generalize eV':V2.setCells X.heap.size 3 (Tot.mk tgr tac trf ttr tvo tno tli tle).vs = V
   have eV:=eV'.symm
   clear eV'
   have HB2:=hide hb2
   have HEV:=hide eV
   have hV2:X.heap.size < V2.heap.size:=Nat.lt_of_lt_of_le hmX hb2.size
   have HC0:Hid (∀ j u,j < 3→wr.cell? ⟨X.heap.size,j,none⟩ = some u→V.cell? ⟨X.heap.size,j,none⟩ = some u):=fun j u hj hu=>by
    rw [eV]
    refine (World.cell?_setCells_out X.heap.size _ 3 V2 ⟨X.heap.size,j,none⟩ (fun _ _=>.inl hj)).trans ?_
    exact (hb2.cell (p:=⟨X.heap.size,j,none⟩) hmX).trans hu
   have HC3:Hid (V.rangeAt X.heap.size 3 (Tot.mk tgr tac trf ttr tvo tno tli tle).vs):=by
    rw [eV]
    exact World.rangeAt_setCells_same V2 X.heap.size 3 _ (fun j hj=>by
     have:=zf (za HTH) hb2 hmX j (by simpa [Tot.vs] using hj)
     exact this)
   have HTV:Hid (V.there w.heap.size 0 11):=by
    rw [eV]
    exact there_blk (zf (za HTR) hb2 (by have:=(za HX).1; omega)) (zaw X.heap.size w.heap.size (by have:=(za HX).1; omega) _ 3 V2)
   have hne:w.heap.size ≠ X.heap.size:=by have:=(za HX).1; omega
   have HBV:Hid (Below w.heap.size w V):=by
    rw [eV]
    exact zm X.heap.size (za HBX).size _ 3 V2 ((za HBW).trans (hb2.mono (za HBW).size))
   clear eV hb2
   have m0:=za HC0 0 _ (by omega) (za HM0)
   have m1:=za HC0 1 _ (by omega) (za HM1)
   have m2:=za HC0 2 _ (by omega) (za HM2)
   have m3:V.cell? ⟨X.heap.size,3,none⟩ = some (.int .i64 tgr):=za HC3 0 _ rfl
   have m4:V.cell? ⟨X.heap.size,4,none⟩ = some (.int .i64 tac):=za HC3 1 _ rfl
   have m5:V.cell? ⟨X.heap.size,5,none⟩ = some (.int .i64 trf):=za HC3 2 _ rfl
   have m6:V.cell? ⟨X.heap.size,6,none⟩ = some (.int .i64 ttr):=za HC3 3 _ rfl
   have m7:V.cell? ⟨X.heap.size,7,none⟩ = some (.int .i64 tvo):=za HC3 4 _ rfl
   have m8:V.cell? ⟨X.heap.size,8,none⟩ = some (.int .i64 tno):=za HC3 5 _ rfl
   have m9:V.cell? ⟨X.heap.size,9,none⟩ = some (.int .i64 tli):=za HC3 6 _ rfl
   have m10:V.cell? ⟨X.heap.size,10,none⟩ = some (.int .i64 tle):=za HC3 7 _ rfl
   obtain ⟨y0,z0,q0⟩:=zc (za HTV) (j:=0) (by omega)
   obtain ⟨y1,z1,q1⟩:=zc (za HTV) (j:=1) (by omega)
   obtain ⟨y2,z2,q2⟩:=zc (za HTV) (j:=2) (by omega)
   obtain ⟨y3,z3,q3⟩:=zc (za HTV) (j:=3) (by omega)
   obtain ⟨y4,z4,q4⟩:=zc (za HTV) (j:=4) (by omega)
   obtain ⟨y5,z5,q5⟩:=zc (za HTV) (j:=5) (by omega)
   obtain ⟨y6,z6,q6⟩:=zc (za HTV) (j:=6) (by omega)
   obtain ⟨y7,z7,q7⟩:=zc (za HTV) (j:=7) (by omega)
   obtain ⟨y8,z8,q8⟩:=zc (za HTV) (j:=8) (by omega)
   obtain ⟨y9,z9,q9⟩:=zc (za HTV) (j:=9) (by omega)
   obtain ⟨y10,z10,q10⟩:=zc (za HTV) (j:=10) (by omega)
   have HR8:=hide (World.rangeAt_setCells_same V w.heap.size 0 [.slice ga gs.length gc,.int .i64 sn,.slice av sl.length cv,.int .i64 tgr,.int .i64 tac,.int .i64 trf,.int .i64 ttr,.int .i64 tvo,.int .i64 tno,.int .i64 tli,.int .i64 tle] (fun j hj=>za HTV j hj))
   have HB8:=hide (zm w.heap.size (Nat.le_refl _) [.slice ga gs.length gc,.int .i64 sn,.slice av sl.length cv,.int .i64 tgr,.int .i64 tac,.int .i64 trf,.int .i64 ttr,.int .i64 tvo,.int .i64 tno,.int .i64 tli,.int .i64 tle] 0 V (za HBV))
   have HROW:Hid (∀ {e sz n:Nat} {v:Value} {xs:List Value},wr.ownsRow X.heap.size e sz v n xs→69 ≠ e→World.ownsRow (V.setCells w.heap.size 0 [.slice ga gs.length gc,.int .i64 sn,.slice av sl.length cv,.int .i64 tgr,.int .i64 tac,.int .i64 trf,.int .i64 ttr,.int .i64 tvo,.int .i64 tno,.int .i64 tli,.int .i64 tle]) w.heap.size e sz v n xs):=fun {e sz n v xs} h hne'=>by
    rw [za HEV]
    exact row_end h (zj h (za HE).box hne') (za HB2) (by have:=(za HX).1; omega) (za HBX).size _ _ _ _
   have HG:Hid (GRa (V.setCells w.heap.size 0 [.slice ga gs.length gc,.int .i64 sn,.slice av sl.length cv,.int .i64 tgr,.int .i64 tac,.int .i64 trf,.int .i64 ttr,.int .i64 tvo,.int .i64 tno,.int .i64 tli,.int .i64 tle]) w.heap.size (.slice ga gs.length gc) sg):=⟨gs,za HROW (za HE).grow (by decide),(za HE).glen,fun i g es hg hes=>za HROW ((za HE).geach i g es hg hes) (by decide),(za HE).glt.2⟩
   have HO:Hid (ORow (V.setCells w.heap.size 0 [.slice ga gs.length gc,.int .i64 sn,.slice av sl.length cv,.int .i64 tgr,.int .i64 tac,.int .i64 trf,.int .i64 ttr,.int .i64 tvo,.int .i64 tno,.int .i64 tli,.int .i64 tle]) w.heap.size (.slice av sl.length cv) sl):=za HROW (za HE).orow (by decide)
   clear HROW
   go_wp2_with fail
   change bodyPost _ _ _ _ _ (V.setCells w.heap.size 0 [.slice ga gs.length gc,.int .i64 sn,.slice av sl.length cv,.int .i64 tgr,.int .i64 tac,.int .i64 trf,.int .i64 ttr,.int .i64 tvo,.int .i64 tno,.int .i64 tli,.int .i64 tle])
   generalize V.setCells w.heap.size 0 [.slice ga gs.length gc,.int .i64 sn,.slice av sl.length cv,.int .i64 tgr,.int .i64 tac,.int .i64 trf,.int .i64 ttr,.int .i64 tvo,.int .i64 tno,.int .i64 tli,.int .i64 tle] = WE at HR8 HB8 HG HO ⊢
   obtain rfl:=za HF1
   have d0:WE.cell? ⟨w.heap.size,0,none⟩ = some (.slice ga gs.length gc):=za HR8 0 _ rfl
   have d1:WE.cell? ⟨w.heap.size,1,none⟩ = some (.int .i64 sn):=za HR8 1 _ rfl
   have d2:WE.cell? ⟨w.heap.size,2,none⟩ = some (.slice av sl.length cv):=za HR8 2 _ rfl
   have d3:WE.cell? ⟨w.heap.size,3,none⟩ = some (.int .i64 tgr):=za HR8 3 _ rfl
   have d4:WE.cell? ⟨w.heap.size,4,none⟩ = some (.int .i64 tac):=za HR8 4 _ rfl
   have d5:WE.cell? ⟨w.heap.size,5,none⟩ = some (.int .i64 trf):=za HR8 5 _ rfl
   have d6:WE.cell? ⟨w.heap.size,6,none⟩ = some (.int .i64 ttr):=za HR8 6 _ rfl
   have d7:WE.cell? ⟨w.heap.size,7,none⟩ = some (.int .i64 tvo):=za HR8 7 _ rfl
   have d8:WE.cell? ⟨w.heap.size,8,none⟩ = some (.int .i64 tno):=za HR8 8 _ rfl
   have d9:WE.cell? ⟨w.heap.size,9,none⟩ = some (.int .i64 tli):=za HR8 9 _ rfl
   have d10:WE.cell? ⟨w.heap.size,10,none⟩ = some (.int .i64 tle):=za HR8 10 _ rfl
   refine bodyPost_ret (by simp [results,Tryz.results17,go_sem,d0,d1,d2,d3,d4,d5,d6,d7,d8,d9,d10]; try rfl) rfl ?_
   exact ⟨_,_,rfl,za HG,za HO,za HB8⟩
theorem run_fold:∀ (cs:List Cm) (s:RunSt),s.t = s.g.foldl wgT tot0→(cs.foldl rstep s).t = (cs.foldl rstep s).g.foldl wgT tot0
 | [],s,h=>h
 | c :: cs,s,h=>by
  rw [List.foldl_cons]
  refine run_fold cs _ ?_
  show wgT s.t (stE s.n s.l c) = (s.g ++ [stE s.n s.l c]).foldl wgT tot0
  rw [List.foldl_append,← h]; rfl
structure Al (t u:Tot):Prop where
 ac:t.ac = u.ac
 rf:t.rf = u.rf
 tr:t.tr = u.tr
 vo:t.vo = u.vo
 no:t.no = u.no
theorem al_cnt {t u:Tot} (e:Ev) (h:Al t u):Al (cntE t e) (cntM u e):=by
 obtain ⟨h1,h2,h3,h4,h5⟩:=h
 unfold cntE cntM
 split
 ·exact ⟨by simp only [h1],h2,h3,h4,h5⟩
 ·split
  ·exact ⟨h1,by simp only [h2],h3,h4,h5⟩
  ·split
   ·exact ⟨h1,h2,by simp only [h3],by simp only [h4],by simp only [h5]⟩
   ·split
    ·exact ⟨h1,h2,h3,h4,h5⟩
    ·exact ⟨h1,h2,h3,h4,h5⟩
theorem al_fold:∀ (es:List Ev) {t u:Tot},Al t u→Al (es.foldl cntE t) (es.foldl cntM u)
 | [],_,_,h=>h
 | e :: es,_,_,h=>al_fold es (al_cnt e h)
theorem cntE_rest (t:Tot) (e:Ev):(cntE t e).gr = t.gr∧(cntE t e).li = t.li∧(cntE t e).le = t.le:=by
 unfold cntE
 split
 ·exact ⟨rfl,rfl,rfl⟩
 ·split
  ·exact ⟨rfl,rfl,rfl⟩
  ·split <;> exact ⟨rfl,rfl,rfl⟩
theorem cntE_fold:∀ (es:List Ev) (t:Tot),(es.foldl cntE t).gr = t.gr∧(es.foldl cntE t).li = t.li∧(es.foldl cntE t).le = t.le
 | [],_=>⟨rfl,rfl,rfl⟩
 | e :: es,t=>by
  have h1:=cntE_fold es (cntE t e)
  have h2:=cntE_rest t e
  exact ⟨h1.1.trans h2.1,h1.2.1.trans h2.2.1,h1.2.2.trans h2.2.2⟩
theorem cntM_gr:∀ (es:List Ev) (t:Tot),(es.foldl cntM t).gr = t.gr
 | [],_=>rfl
 | e :: es,t=>by
  refine (cntM_gr es (cntM t e)).trans ?_
  unfold cntM
  split
  ·rfl
  ·split
   ·rfl
   ·split
    ·rfl
    ·split <;> rfl
theorem totG_gr:∀ (gl:List (List Ev)) (t:Tot),(totG t gl).gr = t.gr
 | [],_=>rfl
 | es :: gl,t=>(totG_gr gl (es.foldl cntM t)).trans (cntM_gr es t)
theorem wrap_few {x:Int} (h0:0 ≤ x) (h1:x ≤ 1000000):wrap64 x = x:=by unfold wrap64; omega
theorem wg_al:∀ (gl:List (List Ev)) {t u:Tot},Al t u→0 ≤ t.gr→t.gr + gl.length ≤ 1000000→Al (gl.foldl wgT t) (totG u gl)∧(gl.foldl wgT t).gr = t.gr + gl.length∧(gl.foldl wgT t).li = t.li∧(gl.foldl wgT t).le = t.le
 | [],t,u,h,_,_=>⟨h,by simp,rfl,rfl⟩
 | es :: gl,t,u,h,h0,h1=>by
  rw [List.length_cons] at h1
  have hf:=cntE_fold es { t with gr:=wrap64 (t.gr + 1) }
  have hw:wrap64 (t.gr + 1) = t.gr + 1:=wrap_few (by omega) (by omega)
  have hg:(wgT t es).gr = t.gr + 1:=hf.1.trans hw
  have ha:Al (wgT t es) (es.foldl cntM u):=al_fold es ⟨h.ac,h.rf,h.tr,h.vo,h.no⟩
  have ih:=wg_al gl ha (by omega) (by omega)
  refine ⟨ih.1,?_,ih.2.2.1.trans hf.2.1,ih.2.2.2.trans hf.2.2⟩
  have:=ih.2.1
  rw [List.foldl_cons,this,List.length_cons]; omega
theorem wb_fold:∀ (l:List Od) (t:Tot) (n:Int),0 ≤ t.li→t.li + l.length ≤ 1000000→l.foldl cntO { t with le:=n } = { t with li:=t.li + l.length,le:=l.foldl (fun n o=>wrap64 (n + o.left)) n }
 | [],t,n,_,_=>by simp
 | o :: l,t,n,h0,h1=>by
  rw [List.length_cons] at h1
  have hw:wrap64 (t.li + 1) = t.li + 1:=wrap_few (by omega) (by omega)
  rw [List.foldl_cons,List.foldl_cons]
  have:=wb_fold l { t with li:=t.li + 1 } (wrap64 (n + o.left)) (by show 0 ≤ t.li + 1; omega) (by show t.li + 1 + _ ≤ _; omega)
  simp only at this
  unfold cntO
  simp only [hw]
  refine this.trans ?_
  congr 1
  rw [List.length_cons]; omega
theorem tot_eq (cs:List Cm) (h:cs.length ≤ 200):wbT (runS cs).t (runS cs).l = totM (runS cs).g (runS cs).l:=by
 have hI:=run_inv cs h
 have hl:=hI.1.good.len
 have hf:(runS cs).t = (runS cs).g.foldl wgT tot0:=run_fold cs _ rfl
 generalize runS cs = s at hI hl hf ⊢
 obtain ⟨ha,hg,hli,hle⟩:=wg_al s.g (t:=tot0) (u:={ tot0 with gr:=s.g.length }) ⟨rfl,rfl,rfl,rfl,rfl⟩ (by show (0:Int) ≤ 0; omega) (by show (0:Int) + _ ≤ _; omega)
 have hgr:=totG_gr s.g { tot0 with gr:=s.g.length }
 rw [← hf] at ha hg hli hle
 unfold totM wbT
 generalize totG { tot0 with gr:=s.g.length } s.g = U at ha hgr ⊢
 have hw:=wb_fold s.l s.t 0 (by rw [hli]; show (0:Int) ≤ 0; omega) (by rw [hli]; show (0:Int) + _ ≤ _; omega)
 have ht:{ s.t with le:=0 } = s.t:=by rw [show (0:Int) = s.t.le from hle.symm]
 rw [ht] at hw
 rw [hw]
 obtain ⟨u1,u2,u3,u4,u5,u6,u7,u8⟩:=U
 generalize s.t = T at *
 obtain ⟨t1,t2,t3,t4,t5,t6,t7,t8⟩:=T
 obtain ⟨a1,a2,a3,a4,a5⟩:=ha
 simp only [tot0] at *
 simp only [Tot.mk.injEq]
 exact ⟨by omega,a1,a2,a3,a4,a5,by omega,rfl⟩
theorem zbk (n a b:Int) (w:World) :
  Calls Tryz.prog 56 #[.int .i64 n,.int .i64 a,.int .i64 b] w fun e w'=>e = .returned (.bool (betB n a b))∧w' = w:=by
 go_enter Tryz.func56,Tryz.ntmps56
 go_wp2
 all_goals go_ret
 all_goals exact ⟨zy (by rw [Bool.eq_iff_iff]; simp [betB]; omega),rfl⟩
set_option maxHeartbeats 400000 in
theorem l03Tag_any (s:ByteArray) (w:World) (hs:s.size ≤ maxLen) :
  Calls Tryz.prog 81 #[.string s] w fun e w'=>e = .returned (.bool (tagB s))∧w' = w:=by
 unfold maxLen at hs
 by_cases hl:s.size ≤ 12
 ·have hl':¬ ((12:Int) < s.size):=by omega
  go_enter Tryz.func81,Tryz.ntmps81
  go_wp2_with fail
  go_loop [3] (fun i=>∃ k:Nat,k ≤ s.size∧i = .int .i64 k∧Hid (s.data.toList.all tagC = (s.data.toList.drop k).all tagC)) (fun i=>s.size - (intOf i).toNat)
  case atStart=>exact ⟨0,Nat.zero_le _,rfl,by simp [Hid]⟩
  case round =>
   obtain ⟨k,hk,rfl,hall⟩:=hrel
   by_cases hlt:k < s.size
   ·have hlt':(k:Int) < s.size:=by omega
    have hdr:=drop_cons s k hlt
    have hw:betB (s[k].toNat:Int) 32 126 = tagC s[k]:=rfl
    cases ht:tagC s[k]
    ·have HT:Hid (s.data.toList.all tagC = false):=by
      have:=za hall
      rw [hdr,List.all_cons,ht,Bool.false_and] at this
      exact this
     rw [ht] at hw
     have hor:(s[k].toNat:Int) < 32 ∨ (32 ≤ (s[k].toNat:Int)∧(126:Int) < s[k].toNat):=by
      simp [betB] at hw; omega
     clear hdr ht hw
     rcases hor with h32 | ⟨h32,h126⟩
     ·have hd:decide ((s[k].toNat:Int) < 32) = true:=by simpa using h32
      go_wp2_with fail
      go_ret
      exact ⟨zy (tag_no s (za HT)).symm,rfl⟩
     ·have hd:decide ((s[k].toNat:Int) < 32) = false:=by simpa using h32
      go_wp2_with fail
      go_ret
      exact ⟨zy (tag_no s (za HT)).symm,rfl⟩
    ·have HN:Hid (s.data.toList.all tagC = (s.data.toList.drop (k + 1)).all tagC):=by
      have:=za hall
      rw [hdr,List.all_cons,ht,Bool.true_and] at this
      exact this
     rw [ht] at hw
     have hor:32 ≤ (s[k].toNat:Int)∧(s[k].toNat:Int) ≤ 126:=by
      simp [betB] at hw; omega
     obtain ⟨h32,h126⟩:=hor
     have hd:decide ((s[k].toNat:Int) < 32) = false:=by simpa using h32
     have hd2:¬ ((126:Int) < s[k].toNat):=by omega
     clear hdr ht hw
     go_wp2_with fail
     go_round
     case rel=>exact ⟨k + 1,by omega,by go_num,za HN⟩
     case measure=>simp [intOf]; omega
   ·go_wp2_with fail
    go_ret
    have h:=za hall
    rw [List.drop_of_length_le (by rw [data_len]; omega)] at h
    exact ⟨zy (tag_yes s hl (by rw [h]; rfl)).symm,rfl⟩
 ·have hl':(12:Int) < s.size:=by omega
  go_enter Tryz.func81,Tryz.ntmps81
  go_wp2_with fail
  go_ret
  exact ⟨zy (tag_long s hl).symm,rfl⟩
end Go.Proofs.YtopjoogdpjaocaaGreat
