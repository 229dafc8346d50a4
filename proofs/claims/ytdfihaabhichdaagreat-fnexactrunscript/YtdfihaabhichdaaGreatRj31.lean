/-
  RunScript by the program: proved by walking the function.
-/
import Derived.Test.YtdfihaabhichdaaGreatRj03
import Derived.Test.YtdfihaabhichdaaGreatRj30
import Derived.Laws.BytesString
import Derived.WalkLawsBesides
import Derived.Laws.Cover2
import Derived.Deep.RegionWith
namespace Go.Proofs.YtdfihaabhichdaaGreat
open Go.RowKit
set_option linter.unusedVariables false

section
variable {C:Nat→Value→Prop} {mb:Nat} {tv:List Value} {base W W':World} {x:List Bool} {f:Nat→Value}
end
theorem below_keptR {mb B:Nat} {w Y W:World} (h1:Below w.heap.size w Y) (h2:KeptBut mb B Y W) (hB:w.heap.size ≤ B) (hm:w.heap.size ≤ mb):Below w.heap.size w W :=
 ⟨h2.os.trans h1.os,h2.tape.trans h1.tape,h2.output.trans h1.output,Nat.le_trans h1.size h2.size,fun k hk=>(h2.block k (by omega) (by omega)).trans (h1.block k hk)⟩
theorem row_end {e sz n mb R B C:Nat} {v:Value} {xs:List Value} {W V2:World} (h:W.ownsRow B e sz v n xs) (hm:some mb ≠ v.ownBlock) (hb:Below W.heap.size W V2) (hR:R < B) (hC:C ≤ B) (us vs:List Value) (o1 o2:Nat):((V2.setCells mb o1 us).setCells R o2 vs).ownsRow C e sz v n xs:=by
 have h1:V2.ownsRow B e sz v n xs:=World.ownsRow.kept (row:=none) h (zaa hb (Nat.le_refl _)) (by cases v.ownBlock <;> simp)
 have h2:=zak hm us o1 V2 h1
 have h3:=zak (b:=R) (fun e'=>by have:=(h.lt R e'.symm).1; omega) vs o2 _ h2
 refine ⟨h3.1,?_⟩
 rcases h3.2 with k1 | ⟨g',c',cur,k1,k2,k3⟩
 ·exact .inl k1
 ·exact .inr ⟨g',c',cur,k1,Nat.le_trans hC k2,k3⟩
structure GRs (W:World) (B:Nat) (gv:Value) (gl:List (List Ev)):Prop where
 ex:∃ gs:List Value,GRow W B gv gs∧gs.length = gl.length∧∀ (i:Nat) (g:Value) (es:List Ev),gs[i]? = some g→gl[i]? = some es→ERow W B g es
structure GRa (W:World) (B:Nat) (gv:Value) (gl:List (List Ev)):Prop where
 ex:∃ gs:List Value,GRow W B gv gs∧gs.length = gl.length∧(∀ (i:Nat) (g:Value) (es:List Ev),gs[i]? = some g→gl[i]? = some es→ERow W B g es)∧gs.Pairwise fun g g'=>∀ b b',g.ownBlock = some b→g'.ownBlock = some b'→b < b'
set_option maxRecDepth 100000 in
set_option maxHeartbeats 1600000 in
theorem implRunScript_any (v:Value) (cs:List Cm) (w:World) (hr:RdR Cm.vs 8 w v cs) (htg:∀ c ∈ cs,c.g.size ≤ maxLen) :
  Calls Tryz.prog 21 #[v] w fun e w'=>∃ gv vq,e = .returned (.tuple #[.agg #[gv,.int .i64 (rsF cs).n,vq,.int .i64 (rsF cs).t.gr,.int .i64 (rsF cs).t.ac,.int .i64 (rsF cs).t.rf,.int .i64 (rsF cs).t.tr,.int .i64 (rsF cs).t.vo,.int .i64 (rsF cs).t.no,.int .i64 (rsF cs).t.li,.int .i64 (rsF cs).t.le],.int .i64 (cntF cs.length)])∧GRa w' w.heap.size gv (rsF cs).g∧ORow w' w.heap.size vq (rsF cs).l∧Below w.heap.size w w':=by
 have HR:=hide hr
 have HTG:=hide htg
 obtain ⟨a,cap,rfl,hlen,hc⟩:=hr
 have hcell:∀ (k:Nat) (c:Cm),cs[k]? = some c→∃ b off,a = some ⟨b,off,none⟩∧b < w.heap.size∧w.rangeAt b (off + k * 8) c.vs:=by
  intro k c hk
  obtain ⟨b,off,h1,h2,h3⟩:=hc (by intro h; rw [h] at hk; simp at hk)
  exact ⟨b,off,h1,h2,h3 k c hk⟩
 have HC:=hide hcell
 clear hcell hc htg
 have hsf:=sfl
 have HCF:=hide (fun W=>countFault_any cs.length hlen W)
 have HCZ:=hide (@cntF_zero cs.length)
 have HF:Hid (rsF cs = if cs.length ≤ 200 then { runS cs with t:=wbT (runS cs).t (runS cs).l } else ⟨0,[],[],tot0⟩):=rfl
 generalize rsF cs = F at HF ⊢
 generalize cntF cs.length = CF at HCF HCZ ⊢
 have hbX:Below w.heap.size w (w.alloc (Obj.cells #[.slice none 0 0,.int .i64 0,.slice none 0 0,.int .i64 0,.int .i64 0,.int .i64 0,.int .i64 0,.int .i64 0,.int .i64 0,.int .i64 0,.int .i64 0] 50)):=(Below.refl _ _).alloc (Nat.le_refl _) _
 have HX:Hid ((w.alloc (Obj.cells #[.slice none 0 0,.int .i64 0,.slice none 0 0,.int .i64 0,.int .i64 0,.int .i64 0,.int .i64 0,.int .i64 0,.int .i64 0,.int .i64 0,.int .i64 0] 50)).heap.size = w.heap.size + 1∧World.there (w.alloc (Obj.cells #[.slice none 0 0,.int .i64 0,.slice none 0 0,.int .i64 0,.int .i64 0,.int .i64 0,.int .i64 0,.int .i64 0,.int .i64 0,.int .i64 0,.int .i64 0] 50)) w.heap.size 0 11):=⟨zf _ _,zw w [.slice none 0 0,.int .i64 0,.slice none 0 0,.int .i64 0,.int .i64 0,.int .i64 0,.int .i64 0,.int .i64 0,.int .i64 0,.int .i64 0,.int .i64 0] 50⟩
 have HBX:=hide hbX
 clear hbX
 go_enter Tryz.func21,Tryz.ntmps21
 refine wp_seq_k fun K hK=>?_
 have HK1:=hide hK
 clear hK
 go_wp2_with fail
 refine za HK1 _ _ ?_
 clear HK1
 generalize (w.alloc (Obj.cells #[.slice none 0 0,.int .i64 0,.slice none 0 0,.int .i64 0,.int .i64 0,.int .i64 0,.int .i64 0,.int .i64 0,.int .i64 0,.int .i64 0,.int .i64 0] 50)) = X at HX HBX ⊢
 refine wp_seq_k fun K hK=>?_
 have HK1:=hide hK
 clear hK
 go_wp2_with fail
 refine (za HCF X).mono ?_
 rintro e w3 ⟨rfl,hw3⟩
 rw [hw3]
 clear hw3 w3
 by_cases h200:cs.length ≤ 200
 rotate_left
 ·have hne:CF ≠ 0:=fun e=>h200 ((za HCZ).1 e)
  have hneb:(CF != 0) = true:=by simpa using hne
  have HF1:Hid (F = ⟨0,[],[],tot0⟩):=(za HF).trans (if_neg h200)
  obtain ⟨y0,z0,q0⟩:=zc (za HX).2 (j:=0) (by omega)
  obtain ⟨y1,z1,q1⟩:=zc (za HX).2 (j:=1) (by omega)
  obtain ⟨y2,z2,q2⟩:=zc (za HX).2 (j:=2) (by omega)
  obtain ⟨y3,z3,q3⟩:=zc (za HX).2 (j:=3) (by omega)
  obtain ⟨y4,z4,q4⟩:=zc (za HX).2 (j:=4) (by omega)
  obtain ⟨y5,z5,q5⟩:=zc (za HX).2 (j:=5) (by omega)
  obtain ⟨y6,z6,q6⟩:=zc (za HX).2 (j:=6) (by omega)
  obtain ⟨y7,z7,q7⟩:=zc (za HX).2 (j:=7) (by omega)
  obtain ⟨y8,z8,q8⟩:=zc (za HX).2 (j:=8) (by omega)
  obtain ⟨y9,z9,q9⟩:=zc (za HX).2 (j:=9) (by omega)
  obtain ⟨y10,z10,q10⟩:=zc (za HX).2 (j:=10) (by omega)
  have HR8:=hide (World.rangeAt_setCells_same X w.heap.size 0 [.slice none 0 0,.int .i64 0,.slice none 0 0,.int .i64 0,.int .i64 0,.int .i64 0,.int .i64 0,.int .i64 0,.int .i64 0,.int .i64 0,.int .i64 0] (fun j hj=>(za HX).2 j hj))
  have HB8:=hide (zn w.heap.size (Nat.le_refl _) [.slice none 0 0,.int .i64 0,.slice none 0 0,.int .i64 0,.int .i64 0,.int .i64 0,.int .i64 0,.int .i64 0,.int .i64 0,.int .i64 0,.int .i64 0] 0 X (za HBX))
  clear HF HCF HCZ HC
  go_wp2_with fail
  change bodyPost _ _ _ _ _ (X.setCells w.heap.size 0 [.slice none 0 0,.int .i64 0,.slice none 0 0,.int .i64 0,.int .i64 0,.int .i64 0,.int .i64 0,.int .i64 0,.int .i64 0,.int .i64 0,.int .i64 0])
  generalize X.setCells w.heap.size 0 [.slice none 0 0,.int .i64 0,.slice none 0 0,.int .i64 0,.int .i64 0,.int .i64 0,.int .i64 0,.int .i64 0,.int .i64 0,.int .i64 0,.int .i64 0] = WE at HR8 HB8 ⊢
  obtain rfl:=za HF1
  have d0:WE.cell? ⟨w.heap.size,0,none⟩ = some (.slice none 0 0):=za HR8 0 _ rfl
  have d1:WE.cell? ⟨w.heap.size,1,none⟩ = some (.int .i64 0):=za HR8 1 _ rfl
  have d2:WE.cell? ⟨w.heap.size,2,none⟩ = some (.slice none 0 0):=za HR8 2 _ rfl
  have d3:WE.cell? ⟨w.heap.size,3,none⟩ = some (.int .i64 0):=za HR8 3 _ rfl
  have d4:WE.cell? ⟨w.heap.size,4,none⟩ = some (.int .i64 0):=za HR8 4 _ rfl
  have d5:WE.cell? ⟨w.heap.size,5,none⟩ = some (.int .i64 0):=za HR8 5 _ rfl
  have d6:WE.cell? ⟨w.heap.size,6,none⟩ = some (.int .i64 0):=za HR8 6 _ rfl
  have d7:WE.cell? ⟨w.heap.size,7,none⟩ = some (.int .i64 0):=za HR8 7 _ rfl
  have d8:WE.cell? ⟨w.heap.size,8,none⟩ = some (.int .i64 0):=za HR8 8 _ rfl
  have d9:WE.cell? ⟨w.heap.size,9,none⟩ = some (.int .i64 0):=za HR8 9 _ rfl
  have d10:WE.cell? ⟨w.heap.size,10,none⟩ = some (.int .i64 0):=za HR8 10 _ rfl
  refine bodyPost_ret (by simp [results,Tryz.results21,go_sem,d0,d1,d2,d3,d4,d5,d6,d7,d8,d9,d10]; try rfl) rfl ?_
  exact ⟨_,_,rfl,⟨[],World.ownsRow_nil _ _ _ _,rfl,(fun i g es hg=>by simp at hg),List.Pairwise.nil⟩,World.ownsRow_nil _ _ _ _,za HB8⟩
 have hz:CF = 0:=(za HCZ).2 h200
 have hzb:(CF != 0) = false:=by rw [hz]; rfl
 have HF1:Hid (F = { runS cs with t:=wbT (runS cs).t (runS cs).l }):=(za HF).trans (if_pos h200)
 have HIV:=hide (run_take cs h200)
 subst hz
 clear HF HCF HCZ
 go_wp2_with fail
 refine za HK1 _ _ ?_
 clear HK1
 have hbY:Below X.heap.size X (X.alloc (Obj.cells #[.slice none 0 0,.int .i64 1,.slice none 0 0,.int .i64 0,.int .i64 0,.int .i64 0,.int .i64 0,.int .i64 0,.int .i64 0,.int .i64 0,.int .i64 0,.slice none 0 0] 75)):=(Below.refl _ _).alloc (Nat.le_refl _) _
 have HEN:Hid (EnS X.heap.size X.heap.size (X.alloc (Obj.cells #[.slice none 0 0,.int .i64 1,.slice none 0 0,.int .i64 0,.int .i64 0,.int .i64 0,.int .i64 0,.int .i64 0,.int .i64 0,.int .i64 0,.int .i64 0,.slice none 0 0] 75)).heap.size (X.alloc (Obj.cells #[.slice none 0 0,.int .i64 1,.slice none 0 0,.int .i64 0,.int .i64 0,.int .i64 0,.int .i64 0,.int .i64 0,.int .i64 0,.int .i64 0,.int .i64 0,.slice none 0 0] 75)) (.slice none 0 0) [] [] 1 (.slice none 0 0) [] tot0 (.slice none 0 0) []):=⟨zg X [.slice none 0 0,.int .i64 1,.slice none 0 0,.int .i64 0,.int .i64 0,.int .i64 0,.int .i64 0,.int .i64 0,.int .i64 0,.int .i64 0,.int .i64 0,.slice none 0 0] _,zw X [.slice none 0 0,.int .i64 1,.slice none 0 0,.int .i64 0,.int .i64 0,.int .i64 0,.int .i64 0,.int .i64 0,.int .i64 0,.int .i64 0,.int .i64 0,.slice none 0 0] _,World.ownsRow_nil _ _ _ _,rfl,fun i g es hg=>by simp at hg,⟨fun g hg=>by simp at hg,List.Pairwise.nil⟩,World.ownsRow_nil _ _ _ _,World.ownsRow_nil _ _ _ _,⟨_,heap_alloc_new X _⟩,hbY.size,Nat.le_refl _⟩
 have HBY:=hide hbY
 clear hbY
 refine wp_seq_k fun K hK=>?_
 have HK1:=hide hK
 clear hK
 go_wp2_with fail
 refine za HK1 _ _ ?_
 clear HK1
 generalize (X.alloc (Obj.cells #[.slice none 0 0,.int .i64 1,.slice none 0 0,.int .i64 0,.int .i64 0,.int .i64 0,.int .i64 0,.int .i64 0,.int .i64 0,.int .i64 0,.int .i64 0,.slice none 0 0] 75)) = Y at HEN HBY ⊢
 refine wp_seq_k fun K hK=>?_
 have HK1:=hide hK
 clear hK
 go_wp2_with fail
 go_loopw [20] (fun iv wr=>∃ (k:Nat),k ≤ cs.length∧iv = .int .i64 k∧Hid ((∃ Bo gv gs vq,EnS X.heap.size X.heap.size Bo wr gv gs (runS (cs.take k)).g (runS (cs.take k)).n vq (runS (cs.take k)).l (runS (cs.take k)).t (.slice none 0 0) [])∧KeptBut X.heap.size X.heap.size Y wr)) (fun iv _=>cs.length - (intOf iv).toNat)
 case atStart=>exact ⟨0,Nat.zero_le _,rfl,⟨_,_,_,_,za HEN⟩,⟨rfl,rfl,rfl,Nat.le_refl _,fun _ _ _=>rfl⟩⟩
 case round =>
  obtain ⟨k,hk,rfl,hin⟩:=hrel
  obtain ⟨⟨Bo,gv,gs,vq,hE⟩,hkb⟩:=za hin
  have HE:=hide hE
  have HKB:=hide hkb
  have HBW:=hide (below_keptR ((za HBX).trans ((za HBY).mono (za HBX).size)) hkb (za HBX).size (za HBX).size)
  clear hin hE hkb
  by_cases hlt:k < cs.length
  ·obtain ⟨e,hke⟩:∃ e,cs[k]? = some e:=⟨_,List.getElem?_eq_getElem hlt⟩
   obtain ⟨b,off,rfl,hb,hcl⟩:=za HC k e hke
   have HNX:=hide (run_step cs hke)
   have hlt':(k:Int) < cs.length:=by omega
   obtain ⟨g0,g1,g2,g3,g4,g5,g6,g7⟩:=zbw (zb hcl (za HBW) hb)
   obtain ⟨hi1,hi2,hi3,hi4⟩:=za HIV k hk
   have htge:=za HTG e (List.mem_of_getElem? hke)
   have hgl:=(za HE).glen
   have hbA:Below wr.heap.size wr (wr.alloc (Obj.cells #[.int .i64 e.k,.int .i64 e.s,.int .i64 e.t,.int .i64 e.l,.int .i64 e.q,.int .i64 e.i,.float .f64 e.p,.string e.g] 37)):=(Below.refl _ _).alloc (Nat.le_refl _) _
   have HDO:=hide (doE_any e _ (zR (za HE) hbA) hi1.good (by omega) (by omega) htge (by omega))
   have HKA:=hide (zk (za HKB) (zG (mb:=X.heap.size) (B:=X.heap.size) hbA (Nat.le_trans (za HE).bo (za HE).le)))
   unfold cmV at HDO
   clear hcl hb hbA hi1 hi2 hi3 hi4 htge hgl hke
   go_wp2_with fail
   refine (za HDO).mono ?_
   rintro r w5 ⟨rfl,⟨Bo5,gv5,gs5,vq5,hE5⟩,hk5⟩
   have HE5:=hide hE5
   have HK5:=hide (zk (za HKA) hk5)
   clear hE5 hk5 HDO g0 g1 g2 g3 g4 g5 g6 g7
   go_wp2_with fail
   go_roundw
   case rel=>exact ⟨k + 1,by omega,by go_num,⟨Bo5,gv5,gs5,vq5,by rw [za HNX]; exact za HE5⟩,za HK5⟩
   case measure=>simp [intOf]; omega
  ·have hlt':¬ (k:Int) < cs.length:=by omega
   rw [List.take_of_length_le (by omega)] at HE
   go_wp2_with fail
   refine za HK1 _ _ ?_
   clear HK1 hlt hlt'
   have hI:=run_inv cs h200
   generalize runS cs = s at HE HF1 hI
   obtain ⟨sn,sl,sg,st⟩:=s
   simp only at HE HF1 hI
   have hl20:=hI.1.good.len
   obtain ⟨av,cv,hv⟩:=zU (za HE).orow
   subst hv
   obtain ⟨ga,gc,hgv⟩:=zU (za HE).grow
   subst hgv
   have HRO:=hide (zP (za HE).orow (by omega))
   have hmX:=(za HE).lt
   have HWB:=hide (fun V hV=>withBook_any st sn (.slice av sl.length cv) sl V hV)
   generalize wbT st sl = T at HWB HF1
   have HT:Hid (wr.rangeAt X.heap.size 3 st.vs):=fun j u hj=>by
    have:=(za HE).cells (3 + j) u (by
     match j,hj with
     | 0,hj | 1,hj | 2,hj | 3,hj | 4,hj | 5,hj | 6,hj | 7,hj=>exact hj
     | j + 8,hj=>simp [Tot.vs] at hj)
    rwa [Nat.zero_add] at this
   have HTH:Hid (wr.there X.heap.size 3 8):=fun j hj=>by
    have:=(za HE).there (3 + j) (by omega)
    rwa [Nat.zero_add] at this
   have HM0:Hid (wr.cell? ⟨X.heap.size,0,none⟩ = some (.slice ga gs.length gc)):=(za HE).cells 0 _ rfl
   have HM1:Hid (wr.cell? ⟨X.heap.size,1,none⟩ = some (.int .i64 sn)):=(za HE).cells 1 _ rfl
   have HM2:Hid (wr.cell? ⟨X.heap.size,2,none⟩ = some (.slice av sl.length cv)):=(za HE).cells 2 _ rfl
   have HTR:Hid (wr.there w.heap.size 0 11):=there_blk (zd (za HX).2 (za HBY) (by have:=(za HX).1; omega)) ((za HKB).block _ (by have:=(za HX).1; omega) (by have:=(za HX).1; omega))
   obtain ⟨tgr,tac,trf,ttr,tvo,tno,tli,tle⟩:=T
   simp only at HWB
   have n1:=za HM1
   have n2:=za HM2
   have n3:wr.cell? ⟨X.heap.size,3,none⟩ = some (.int .i64 st.gr):=za HT 0 _ rfl
   have n4:wr.cell? ⟨X.heap.size,4,none⟩ = some (.int .i64 st.ac):=za HT 1 _ rfl
   have n5:wr.cell? ⟨X.heap.size,5,none⟩ = some (.int .i64 st.rf):=za HT 2 _ rfl
   have n6:wr.cell? ⟨X.heap.size,6,none⟩ = some (.int .i64 st.tr):=za HT 3 _ rfl
   have n7:wr.cell? ⟨X.heap.size,7,none⟩ = some (.int .i64 st.vo):=za HT 4 _ rfl
   have n8:wr.cell? ⟨X.heap.size,8,none⟩ = some (.int .i64 st.no):=za HT 5 _ rfl
   have n9:wr.cell? ⟨X.heap.size,9,none⟩ = some (.int .i64 st.li):=za HT 6 _ rfl
   have n10:wr.cell? ⟨X.heap.size,10,none⟩ = some (.int .i64 st.le):=za HT 7 _ rfl
   refine wp_seq_k fun K hK=>?_
   have HK1:=hide hK
   clear hK
   go_wp2_with fail
   refine (za HWB wr (za HRO)).mono ?_
   rintro e V2 ⟨rfl,hb2⟩
   clear n1 n2 n3 n4 n5 n6 n7 n8 n9 n10
   have hth:=zd (za HTH) hb2 hmX
   obtain ⟨y0,z0,q0⟩:=zab hth (j:=0) (by omega)
   obtain ⟨y1,z1,q1⟩:=zab hth (j:=1) (by omega)
   obtain ⟨y2,z2,q2⟩:=zab hth (j:=2) (by omega)
   obtain ⟨y3,z3,q3⟩:=zab hth (j:=3) (by omega)
   obtain ⟨y4,z4,q4⟩:=zab hth (j:=4) (by omega)
   obtain ⟨y5,z5,q5⟩:=zab hth (j:=5) (by omega)
   obtain ⟨y6,z6,q6⟩:=zab hth (j:=6) (by omega)
   obtain ⟨y7,z7,q7⟩:=zab hth (j:=7) (by omega)
   clear hth
   have HB0:=hide hb2
   clear hb2
   go_wp2_with fail
   refine za HK1 _ _ ?_
   clear HK1 z0 q0 z1 q1 z2 q2 z3 q3 z4 q4 z5 q5 z6 q6 z7 q7
   change Code.wp _ _ _ _ (V2.setCells X.heap.size 3 (Tot.mk tgr tac trf ttr tvo tno tli tle).vs)
   have hb2:=za HB0
   generalize eV':V2.setCells X.heap.size 3 (Tot.mk tgr tac trf ttr tvo tno tli tle).vs = V
   have eV:=eV'.symm
   clear eV'
   have HB2:=hide hb2
   have HEV:=hide eV
   have hV2:X.heap.size < V2.heap.size:=Nat.lt_of_lt_of_le hmX hb2.size
   have HC0:Hid (∀ j u,j < 3→wr.cell? ⟨X.heap.size,j,none⟩ = some u→V.cell? ⟨X.heap.size,j,none⟩ = some u):=fun j u hj hu=>by
    rw [eV]
    refine (World.cell?_setCells_out X.heap.size _ 3 V2 ⟨X.heap.size,j,none⟩ (fun _ _=>.inl hj)).trans ?_
    exact (hb2.cell (p:=⟨X.heap.size,j,none⟩) hmX).trans hu
   have HC3:Hid (V.rangeAt X.heap.size 3 (Tot.mk tgr tac trf ttr tvo tno tli tle).vs):=by
    rw [eV]
    exact World.rangeAt_setCells_same V2 X.heap.size 3 _ (fun j hj=>by
     have:=zd (za HTH) hb2 hmX j (by simpa [Tot.vs] using hj)
     exact this)
   have HTV:Hid (V.there w.heap.size 0 11):=by
    rw [eV]
    exact there_blk (zd (za HTR) hb2 (by have:=(za HX).1; omega)) (zaw X.heap.size w.heap.size (by have:=(za HX).1; omega) _ 3 V2)
   have hne:w.heap.size ≠ X.heap.size:=by have:=(za HX).1; omega
   have HBV:Hid (Below w.heap.size w V):=by
    rw [eV]
    exact zn X.heap.size (za HBX).size _ 3 V2 ((za HBW).trans (hb2.mono (za HBW).size))
   clear eV hb2
   have m0:=za HC0 0 _ (by omega) (za HM0)
   have m1:=za HC0 1 _ (by omega) (za HM1)
   have m2:=za HC0 2 _ (by omega) (za HM2)
   have m3:V.cell? ⟨X.heap.size,3,none⟩ = some (.int .i64 tgr):=za HC3 0 _ rfl
   have m4:V.cell? ⟨X.heap.size,4,none⟩ = some (.int .i64 tac):=za HC3 1 _ rfl
   have m5:V.cell? ⟨X.heap.size,5,none⟩ = some (.int .i64 trf):=za HC3 2 _ rfl
   have m6:V.cell? ⟨X.heap.size,6,none⟩ = some (.int .i64 ttr):=za HC3 3 _ rfl
   have m7:V.cell? ⟨X.heap.size,7,none⟩ = some (.int .i64 tvo):=za HC3 4 _ rfl
   have m8:V.cell? ⟨X.heap.size,8,none⟩ = some (.int .i64 tno):=za HC3 5 _ rfl
   have m9:V.cell? ⟨X.heap.size,9,none⟩ = some (.int .i64 tli):=za HC3 6 _ rfl
   have m10:V.cell? ⟨X.heap.size,10,none⟩ = some (.int .i64 tle):=za HC3 7 _ rfl
   obtain ⟨y0,z0,q0⟩:=zc (za HTV) (j:=0) (by omega)
   obtain ⟨y1,z1,q1⟩:=zc (za HTV) (j:=1) (by omega)
   obtain ⟨y2,z2,q2⟩:=zc (za HTV) (j:=2) (by omega)
   obtain ⟨y3,z3,q3⟩:=zc (za HTV) (j:=3) (by omega)
   obtain ⟨y4,z4,q4⟩:=zc (za HTV) (j:=4) (by omega)
   obtain ⟨y5,z5,q5⟩:=zc (za HTV) (j:=5) (by omega)
   obtain ⟨y6,z6,q6⟩:=zc (za HTV) (j:=6) (by omega)
   obtain ⟨y7,z7,q7⟩:=zc (za HTV) (j:=7) (by omega)
   obtain ⟨y8,z8,q8⟩:=zc (za HTV) (j:=8) (by omega)
   obtain ⟨y9,z9,q9⟩:=zc (za HTV) (j:=9) (by omega)
   obtain ⟨y10,z10,q10⟩:=zc (za HTV) (j:=10) (by omega)
   have HR8:=hide (World.rangeAt_setCells_same V w.heap.size 0 [.slice ga gs.length gc,.int .i64 sn,.slice av sl.length cv,.int .i64 tgr,.int .i64 tac,.int .i64 trf,.int .i64 ttr,.int .i64 tvo,.int .i64 tno,.int .i64 tli,.int .i64 tle] (fun j hj=>za HTV j hj))
   have HB8:=hide (zn w.heap.size (Nat.le_refl _) [.slice ga gs.length gc,.int .i64 sn,.slice av sl.length cv,.int .i64 tgr,.int .i64 tac,.int .i64 trf,.int .i64 ttr,.int .i64 tvo,.int .i64 tno,.int .i64 tli,.int .i64 tle] 0 V (za HBV))
   have HROW:Hid (∀ {e sz n:Nat} {v:Value} {xs:List Value},wr.ownsRow X.heap.size e sz v n xs→75 ≠ e→World.ownsRow (V.setCells w.heap.size 0 [.slice ga gs.length gc,.int .i64 sn,.slice av sl.length cv,.int .i64 tgr,.int .i64 tac,.int .i64 trf,.int .i64 ttr,.int .i64 tvo,.int .i64 tno,.int .i64 tli,.int .i64 tle]) w.heap.size e sz v n xs):=fun {e sz n v xs} h hne'=>by
    rw [za HEV]
    exact row_end h (zl h (za HE).box hne') (za HB2) (by have:=(za HX).1; omega) (za HBX).size _ _ _ _
   have HG:Hid (GRa (V.setCells w.heap.size 0 [.slice ga gs.length gc,.int .i64 sn,.slice av sl.length cv,.int .i64 tgr,.int .i64 tac,.int .i64 trf,.int .i64 ttr,.int .i64 tvo,.int .i64 tno,.int .i64 tli,.int .i64 tle]) w.heap.size (.slice ga gs.length gc) sg):=⟨gs,za HROW (za HE).grow (by decide),(za HE).glen,fun i g es hg hes=>za HROW ((za HE).geach i g es hg hes) (by decide),(za HE).glt.2⟩
   have HO:Hid (ORow (V.setCells w.heap.size 0 [.slice ga gs.length gc,.int .i64 sn,.slice av sl.length cv,.int .i64 tgr,.int .i64 tac,.int .i64 trf,.int .i64 ttr,.int .i64 tvo,.int .i64 tno,.int .i64 tli,.int .i64 tle]) w.heap.size (.slice av sl.length cv) sl):=za HROW (za HE).orow (by decide)
   clear HROW
   go_wp2_with fail
   change bodyPost _ _ _ _ _ (V.setCells w.heap.size 0 [.slice ga gs.length gc,.int .i64 sn,.slice av sl.length cv,.int .i64 tgr,.int .i64 tac,.int .i64 trf,.int .i64 ttr,.int .i64 tvo,.int .i64 tno,.int .i64 tli,.int .i64 tle])
   generalize V.setCells w.heap.size 0 [.slice ga gs.length gc,.int .i64 sn,.slice av sl.length cv,.int .i64 tgr,.int .i64 tac,.int .i64 trf,.int .i64 ttr,.int .i64 tvo,.int .i64 tno,.int .i64 tli,.int .i64 tle] = WE at HR8 HB8 HG HO ⊢
   obtain rfl:=za HF1
   have d0:WE.cell? ⟨w.heap.size,0,none⟩ = some (.slice ga gs.length gc):=za HR8 0 _ rfl
   have d1:WE.cell? ⟨w.heap.size,1,none⟩ = some (.int .i64 sn):=za HR8 1 _ rfl
   have d2:WE.cell? ⟨w.heap.size,2,none⟩ = some (.slice av sl.length cv):=za HR8 2 _ rfl
   have d3:WE.cell? ⟨w.heap.size,3,none⟩ = some (.int .i64 tgr):=za HR8 3 _ rfl
   have d4:WE.cell? ⟨w.heap.size,4,none⟩ = some (.int .i64 tac):=za HR8 4 _ rfl
   have d5:WE.cell? ⟨w.heap.size,5,none⟩ = some (.int .i64 trf):=za HR8 5 _ rfl
   have d6:WE.cell? ⟨w.heap.size,6,none⟩ = some (.int .i64 ttr):=za HR8 6 _ rfl
   have d7:WE.cell? ⟨w.heap.size,7,none⟩ = some (.int .i64 tvo):=za HR8 7 _ rfl
   have d8:WE.cell? ⟨w.heap.size,8,none⟩ = some (.int .i64 tno):=za HR8 8 _ rfl
   have d9:WE.cell? ⟨w.heap.size,9,none⟩ = some (.int .i64 tli):=za HR8 9 _ rfl
   have d10:WE.cell? ⟨w.heap.size,10,none⟩ = some (.int .i64 tle):=za HR8 10 _ rfl
   refine bodyPost_ret (by simp [results,Tryz.results21,go_sem,d0,d1,d2,d3,d4,d5,d6,d7,d8,d9,d10]; try rfl) rfl ?_
   exact ⟨_,_,rfl,za HG,za HO,za HB8⟩
end Go.Proofs.YtdfihaabhichdaaGreat
namespace Go.Proofs.YtdfihaabhichdaaGreat
open Go.RowKit
set_option linter.unusedVariables false

def strB (ns:List Int):ByteArray:=ns.foldl (fun r n=>r.push (UInt8.ofNat n.toNat)) ByteArray.empty
theorem load_row {P:Program} (W:World) (b off:Nat) (ns:List Int) (h:∀ i,i < ns.length→W.cell? ⟨b,off + i,none⟩ = some (.int .u8 (ns.getD i 0))) :
    ∀ (m i:Nat) (acc:Array Value),i + m = ns.length→acc = ((ns.take i).map (Value.int .u8)).toArray→(loadCellsFrom ⟨b,off,none⟩ i m acc).run P W = .ok (ns.map (Value.int .u8)).toArray W:=by
  intro m
  induction m with
  | zero =>
    intro i acc hi ha
    subst ha
    rw [List.take_of_length_le (by omega)]
    rfl
  | succ m ih =>
    intro i acc hi ha
    have e:(⟨b,off,none⟩:Addr).add i = ⟨b,off + i,none⟩:=by unfold Addr.add; split <;> simp_all
    have hc:=h i (by omega)
    simp only [loadCellsFrom,Sem.run_bind,e]
    have hl:(load ⟨b,off + i,none⟩).run P W = .ok (.int .u8 (ns.getD i 0)) W:=by simp [hc]
    rw [hl]
    simp only [Result.andThen]
    refine ih (i + 1) _ (by omega) ?_
    rw [ha,take_get ns i (by omega),List.map_append]
    simp
theorem conv_text (v:Value) (ns:List Int) (W:World) (hr:Rd W v ns) :
    (convert 139 9 v).run Tryz.prog W = .ok (.string (strB ns)) W:=by
  obtain ⟨a,cap,rfl,_,hc⟩:=hr
  rw [run_convert_bytes_string W _ _ 5 a _ _ Tryz.underlying139 Tryz.underlying5 Tryz.underlying9]
  by_cases hne:ns = []
  · subst hne
    cases a with
    | none=>rfl
    | some ad=>rfl
  · obtain ⟨b,off,rfl,hcell⟩:=hc hne
    exact run_bytesToString W ⟨b,off,none⟩ ns.length cap ns (load_row W b off ns hcell ns.length 0 #[] (by omega) rfl)
end Go.Proofs.YtdfihaabhichdaaGreat
namespace Go.Proofs.YtdfihaabhichdaaGreat
open Go.RowKit
set_option linter.unusedVariables false

def ch (n:Int):ByteArray:=strB [n]
def digF:Nat→Nat→ByteArray→ByteArray
  | 0,_,o=>o
  | f + 1,k,o=>if k = 0 then o else digF f (k / 10) (ch (48 + (k:Int) % 10) ++ o)
theorem digF_zero (f:Nat) (o:ByteArray):digF f 0 o = o:=by cases f <;> rfl
theorem digF_more:∀ (f k:Nat) (o:ByteArray),k ≤ f→0 < k→digF f k o = digF (f - 1) (k / 10) (ch (48 + (k:Int) % 10) ++ o)
  | 0,k,o,h,h0=>by omega
  | f + 1,k,o,h,h0=>by simp only [digF,Nat.add_sub_cancel]; rw [if_neg (by omega)]
def markS (k:Nat):ByteArray:=⟨#[109]⟩ ++ digF k k ⟨#[]⟩
theorem one_text (b:Nat) (x:Int) (W:World) (h:W.cell? ⟨b,0,none⟩ = some (.int .u8 x)) :
    (convert 139 9 (.slice (some ⟨b,0,none⟩) 1 1)).run Tryz.prog W = .ok (.string (ch x)) W:=by
  refine conv_text _ [x] W ⟨_,1,rfl,by simp,fun _=>⟨b,0,rfl,fun i hi=>?_⟩⟩
  obtain rfl:i = 0:=by simp at hi; omega
  exact h
set_option maxRecDepth 100000 in
set_option maxHeartbeats 400000 in
theorem markText_any (K:Nat) (w:World) (h0:0 < K) (h1:K ≤ 1073741824) :
    Calls Tryz.prog 43 #[.int .i64 K] w fun e w'=>e = .returned (.string (markS K))∧Below w.heap.size w w':=by
  have h0':¬ ((K:Int) ≤ 0):=by omega
  go_enter Tryz.func43,Tryz.ntmps43
  go_wp2_with fail
  go_loopw [0,3] (fun kv ov wr=>∃ (f k:Nat) (o:ByteArray),kv = .int .i64 k∧k ≤ f∧k ≤ K∧ov = .string o∧o.size + k ≤ K∧Hid (digF f k o = digF K K ⟨#[]⟩)∧Below w.heap.size w wr) (fun kv _ _=>(intOf kv).toNat)
  case atStart=>exact ⟨K,K,⟨#[]⟩,rfl,Nat.le_refl _,Nat.le_refl _,rfl,by rw [show (⟨#[]⟩:ByteArray).size = 0 from rfl]; omega,rfl,Below.refl _ _⟩
  case round =>
    obtain ⟨f,k,o,rfl,hkf,hk,rfl,hsz,ho,hbel⟩:=hrel
    have HB:=hide hbel
    clear hbel
    by_cases hk0:0 < k
    · have hk0':(0:Int) < k:=by omega
      have hcv:=one_text wr.heap.size (48 + (k:Int) % 10) (wr.alloc (Obj.cells #[.int .u8 (48 + (k:Int) % 10)] 5)) (cell_of_row _ wr.heap.size 0 _ _ _ (heap_alloc_new wr _))
      have HO:=hide ((digF_more f k o hkf hk0).symm.trans ho)
      clear ho
      have hc1:(ch (48 + (k:Int) % 10)).size = 1:=rfl
      generalize ch (48 + (k:Int) % 10) = c at *
      go_wp2_with fail
      go_roundw
      case rel=>exact ⟨f - 1,k / 10,c ++ o,by go_num,by omega,by omega,rfl,by rw [ByteArray.size_append]; omega,za HO,(za HB).alloc (za HB).size _⟩
      case measure=>simp [intOf]; omega
    · have hk0':¬ ((0:Int) < k):=by omega
      have HO:Hid (o = digF K K ⟨#[]⟩):=by
        have h:=za ho
        rw [show k = 0 by omega,digF_zero] at h; exact h
      clear ho
      go_wp2_with fail
      go_ret
      refine ⟨?_,za HB⟩
      rw [za HO]; rfl
end Go.Proofs.YtdfihaabhichdaaGreat
namespace Go.Proofs.YtdfihaabhichdaaGreat
open Go.RowKit
set_option linter.unusedVariables false

section
variable {α:Type} (f:α→List Value) (sz:Nat)
def MarkR (n g:Nat) (w wr:World) (done:List α):Prop :=
  (∀ i c,done[i]? = some c→wr.rangeAt g (0 + i * sz) (f c))∧wr.there g 0 (n * sz)∧w.grownBy wr (some g)∧done.length ≤ n∧g < wr.heap.size
variable {f sz}
theorem zbp {w:World} (g:Nat):∀ (vs:List Value) (o:Nat) (wr:World),w.grownBy wr (some g)→w.grownBy (wr.setCells g o vs) (some g)
  | [],_,_,h=>h
  | v :: r,o,wr,h=>by rw [World.setCells]; exact zbp g r (o + 1) _ (gr_trans h (gr_set wr ⟨g,o,none⟩ v))
theorem range_append {w:World} {b o:Nat} {a c:List Value} (h1:w.rangeAt b o a) (h2:w.rangeAt b (o + a.length) c):w.rangeAt b o (a ++ c):=fun j v hv=>by
  by_cases hj:j < a.length
  · rw [List.getElem?_append_left hj] at hv; exact h1 j v hv
  · rw [List.getElem?_append_right (by omega)] at hv
    have:=h2 _ v hv
    rw [show o + a.length + (j - a.length) = o + j by omega] at this; exact this
theorem zap {w:World} {g i m n:Nat} (h:w.there g 0 n) (hi:i + m ≤ n):w.there g i m:=fun j hj=>by
  have:=h (i + j) (by omega)
  rw [Nat.zero_add] at this; exact this
theorem mark_stepR {n g C:Nat} {w wr W2:World} {done:List α} (x:α) (a:List Value) (z:Value) (hx:f x = a ++ [z]) (h:MarkR f sz n g w wr done) (hn:done.length < n) (hf:∀ c,(f c).length = sz)
    (hb:Below C (wr.setCells g (done.length * sz) a) W2) (hC:wr.heap.size ≤ C):MarkR f sz n g w (W2.setCells g (done.length * sz + a.length) [z]) (done ++ [x]):=by
  obtain ⟨h1,h2,h3,h4,h5⟩:=h
  have hsz:a.length + 1 = sz:=by rw [← hf x,hx]; simp
  have hle:done.length * sz + sz ≤ n * sz:=by
    have:=Nat.mul_le_mul_right sz (show done.length + 1 ≤ n by omega)
    rw [Nat.add_mul] at this; omega
  have hlt:g < C:=by omega
  have t1:(wr.setCells g (done.length * sz) a).there g 0 (n * sz):=World.there_setCells h2 _ _ _
  have t2:=zd t1 hb hlt
  have ra:W2.rangeAt g (done.length * sz) a:=zb (World.rangeAt_setCells_same _ _ _ _ (zap h2 (by omega))) hb hlt
  refine ⟨fun i c hc=>?_,World.there_setCells t2 _ _ _,?_,by simp; omega,?_⟩
  · by_cases hi:i < done.length
    · rw [List.getElem?_append_left hi] at hc
      have hi':=Nat.mul_le_mul_right sz (show i + 1 ≤ done.length by omega)
      rw [Nat.add_mul] at hi'
      refine World.rangeAt_setCells_apart (zb (World.rangeAt_setCells_apart (h1 i c hc) _ _ _ (.inr (.inl ?_))) hb hlt) _ _ _ (.inr (.inl ?_))
      · rw [hf c]; omega
      · rw [hf c]; omega
    · have hlen:i < (done ++ [x]).length:=(List.getElem?_eq_some_iff.1 hc).1
      have hi':i = done.length:=by simp at hlen; omega
      subst hi'
      simp only [List.getElem?_append_right (Nat.le_refl _),Nat.sub_self,List.getElem?_cons_zero,Option.some.injEq] at hc
      subst hc
      rw [Nat.zero_add,hx]
      exact range_append (World.rangeAt_setCells_apart ra _ _ _ (.inr (.inl (by omega)))) (World.rangeAt_setCells_same _ _ _ _ (zap t2 (by simp; omega)))
  · exact zbp g _ _ _ (gr_trans (zbp g _ _ _ h3) (zaa hb (by rw [zv]; exact hC)))
  · rw [zv]
    have:=hb.size
    rw [zv] at this
    omega
end

theorem zbq (x:Int) (K:Nat) (w:World) (hx:x = K) (h0:0 < K) (h1:K ≤ 1073741824) :
    Calls Tryz.prog 43 #[.int .i64 x] w fun e w'=>e = .returned (.string (markS K))∧Below w.heap.size w w':=by
  subst hx; exact markText_any K w h0 h1
end Go.Proofs.YtdfihaabhichdaaGreat
