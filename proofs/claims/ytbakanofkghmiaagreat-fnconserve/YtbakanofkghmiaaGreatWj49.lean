/-
  The law that no quantity is made or lost, walked.
-/
import Derived.Test.YtbakanofkghmiaaGreatWj47
import Derived.Test.YtbakanofkghmiaaGreatWj48
set_option linter.unusedVariables false
set_option maxHeartbeats 6400000
set_option maxRecDepth 100000
namespace Go.Proofs.YtbakanofkghmiaaGreat
open Go.RowKit
theorem Tryz.infoIntC:(Tryz.prog.info? 3).map (fun i=>(i.zero,i.size,i.bytes)) = some (some (.int .i64 0),1,8):=by kernel_rfl
set_option maxRecDepth 100000 in
set_option maxHeartbeats 6400000 in
theorem conLaw (v:Value) (l:List Int) (w:World) (hr:Rd w v l) (F:Bts l) (hl:l.length ≤ 1048576) :
  Calls Tryz.prog 5 #[v] w fun e w'=>e = .returned (.bool true)∧Below w.heap.size w w':=by
 have HR:=hide hr
 have HBT:=hide F
 obtain ⟨a,A,rfl,-,-⟩:=hr
 clear F
 have hl':¬ ((1048576:Int) < l.length):=by omega
 go_enter Tryz.func5,Tryz.ntmps5
 go_wp2_with fail
 refine (scriptOf_ex _ l w (U HR) (U HBT)).mono ?_
 rintro e w1 ⟨o,cs,rfl,hcq,xN,xW⟩
 obtain ⟨ao,co,rfl⟩:=dO xN
 have hn:cs.length ≤ 27:=by rw [csEq_len hcq]; exact (scS_ok l _).2
 have om:∀ c ∈ cs,DrOk c:=csEq_ok hcq (scS_ok l _).1
 have HRC:Hid (RdR Cm.vs 8 w1 (.slice ao cs.length co) cs):=da (bQ Cm.len (by omega) xN)
 have qI:Hid (∀ c ∈ cs,c.g.size ≤ maxLen):=fun c hc=>yN (om c hc).1 (by unfold maxLen; omega)
 have xU:=hide xW
 obtain ⟨tg,hL,hOF,hGL⟩:=con_run cs (by omega) (fun c hc=>(om c hc).2)
 have HL:=hide hL
 have HOF:=hide hOF
 have kM:=hide hGL
 have hcf:cntF cs.length = 0:=cntF_zero.2 (by omega)
 have HIM:=hide (fun W hW=>implRunScript_any (.slice ao cs.length co) cs W hW (U qI))
 have HQ:=hide (fun cs2 (E:CsEq cs2 (scD l))=>run_eq (csEq_trans E (csEq_sym hcq)))
 simp only [hcf] at HIM
 generalize rsF cs = hb at HL HOF kM HIM HQ
 have HGM:Hid (∀ es ∈ hb.g,es.length ≤ 1000):=fun es he=>by
  obtain ⟨i,hi⟩:=List.getElem?_of_mem he
  have:=((U HL).g i es hi).1
  omega
 clear om hcq xN xW hcf qI hL hOF hGL
 go_wp2_with fail
 refine (U HIM w1 (U HRC)).mono ?_
 rintro e w2 ⟨gv,vq,rfl,uk,oq,xY⟩
 obtain ⟨gs,qq,qc,vd,-⟩:=uk.ex
 have kJ:=grs_rd qq qc vd (by rw [U kM]; omega) (U HGM)
 obtain ⟨ag,cg,rfl,-⟩:=id kJ
 obtain ⟨aq,cq,rfl⟩:=dO oq
 have hro:=da (bQ Od.len (by have:=(U HOF).len; omega) oq)
 have qU:=(U xU).trans (xY.mono (U xU).size)
 have ux:Hid (Below w.heap.size w (w2.alloc (Obj.cells #[.slice ag hb.g.length cg,.int .i64 hb.n,.slice aq hb.l.length cq,.int .i64 hb.t.gr,.int .i64 hb.t.ac,.int .i64 hb.t.rf,.int .i64 hb.t.tr,.int .i64 hb.t.vo,.int .i64 hb.t.no,.int .i64 hb.t.li,.int .i64 hb.t.le] 32))):=qU.trans (((Below.refl _ _).alloc (Nat.le_refl _) _).mono qU.size)
 have HX:=hide (aY w2 [.slice ag hb.g.length cg,.int .i64 hb.n,.slice aq hb.l.length cq,.int .i64 hb.t.gr,.int .i64 hb.t.ac,.int .i64 hb.t.rf,.int .i64 hb.t.tr,.int .i64 hb.t.vo,.int .i64 hb.t.no,.int .i64 hb.t.li,.int .i64 hb.t.le] 32)
 have ja:w2.heap.size < (w2.alloc (Obj.cells #[.slice ag hb.g.length cg,.int .i64 hb.n,.slice aq hb.l.length cq,.int .i64 hb.t.gr,.int .i64 hb.t.ac,.int .i64 hb.t.rf,.int .i64 hb.t.tr,.int .i64 hb.t.vo,.int .i64 hb.t.no,.int .i64 hb.t.li,.int .i64 hb.t.le] 32)).heap.size:=by simp
 have HRO:=hide (zn hro ((Below.refl w2.heap.size w2).alloc (Nat.le_refl _) (Obj.cells #[.slice ag hb.g.length cg,.int .i64 hb.n,.slice aq hb.l.length cq,.int .i64 hb.t.gr,.int .i64 hb.t.ac,.int .i64 hb.t.rf,.int .i64 hb.t.tr,.int .i64 hb.t.vo,.int .i64 hb.t.no,.int .i64 hb.t.li,.int .i64 hb.t.le] 32)) (Nat.le_refl _))
 have HRG:=hide (dS kJ ((Below.refl w2.heap.size w2).alloc (Nat.le_refl _) (Obj.cells #[.slice ag hb.g.length cg,.int .i64 hb.n,.slice aq hb.l.length cq,.int .i64 hb.t.gr,.int .i64 hb.t.ac,.int .i64 hb.t.rf,.int .i64 hb.t.tr,.int .i64 hb.t.vo,.int .i64 hb.t.no,.int .i64 hb.t.li,.int .i64 hb.t.le] 32)) (Nat.le_refl _))
 clear uk oq xY qq qc vd kJ hro HRC HIM xU qU
 go_wp2_with fail
 generalize (w2.alloc (Obj.cells #[.slice ag hb.g.length cg,.int .i64 hb.n,.slice aq hb.l.length cq,.int .i64 hb.t.gr,.int .i64 hb.t.ac,.int .i64 hb.t.rf,.int .i64 hb.t.tr,.int .i64 hb.t.vo,.int .i64 hb.t.no,.int .i64 hb.t.li,.int .i64 hb.t.le] 32)) = W2 at ux HX ja HRG HRO ⊢
 refine (scriptOf_ex _ l W2 (rd_below (U HR) (U ux) (Nat.le_refl _)) (U HBT)).mono ?_
 rintro e w3 ⟨o2,cs2,rfl,hcq2,qY,uC⟩
 obtain ⟨ao2,co2,rfl⟩:=dO qY
 have hn2:cs2.length ≤ 27:=by rw [csEq_len hcq2]; exact (scS_ok l _).2
 have hdr2:∀ c ∈ cs2,DrOk c:=csEq_ok hcq2 (scS_ok l _).1
 have HRC:Hid (RdR Cm.vs 8 w3 (.slice ao2 cs2.length co2) cs2):=da (bQ Cm.len (by omega) qY)
 have qI:Hid (∀ c ∈ cs2,c.g.size ≤ maxLen):=fun c hc=>yN (hdr2 c hc).1 (by unfold maxLen; omega)
 have hcf:cntF cs2.length = 0:=cntF_zero.2 (by omega)
 have HSM:=hide (fun W hW=>specRunScript_any (.slice ao2 cs2.length co2) cs2 W hW (U qI))
 simp only [hcf] at HSM
 have hq2:=U HQ cs2 hcq2
 generalize rsF cs2 = F2 at HSM hq2
 obtain ⟨n2,l2,G2,t2⟩:=F2
 obtain ⟨en,el,eg,et⟩:=hq2
 simp only at en el eg et HSM
 subst en el et
 have HEG:=hide (gsEq_sym eg)
 have HLL:Hid (G2.length = hb.g.length):=gsEq_len eg
 have HGM2:Hid (∀ es ∈ G2,es.length ≤ 1000):=fun es he=>by
  obtain ⟨i,hi⟩:=List.getElem?_of_mem he
  obtain ⟨es',G,E⟩:=gsEq_at eg i es hi
  rw [esEq_len E]
  exact U HGM es' (yO G)
 clear hdr2 hcq2 qY hcf qI eg HQ hn2
 go_wp2_with fail
 refine (U HSM w3 (U HRC)).mono ?_
 rintro e w4 ⟨gv,vq,rfl,uk,oq,xC⟩
 obtain ⟨gs,qq,qc,vd⟩:=uk.ex
 have kJ:=grs_rd qq qc vd (by rw [U HLL,U kM]; omega) (U HGM2)
 obtain ⟨ag2,cg2,rfl,-⟩:=id kJ
 obtain ⟨aq2,cq2,rfl⟩:=dO oq
 have hro:=da (bQ Od.len (by have:=(U HOF).len; omega) oq)
 have hal:Below w4.heap.size w4 (w4.alloc (Obj.cells #[.slice ag2 G2.length cg2,.int .i64 hb.n,.slice aq2 hb.l.length cq2,.int .i64 hb.t.gr,.int .i64 hb.t.ac,.int .i64 hb.t.rf,.int .i64 hb.t.tr,.int .i64 hb.t.vo,.int .i64 hb.t.no,.int .i64 hb.t.li,.int .i64 hb.t.le] 32)):=(Below.refl _ _).alloc (Nat.le_refl _) _
 have hb34:=uC.trans (xC.mono uC.size)
 have hb35:=hb34.trans (hal.mono hb34.size)
 have km:=hide ((U ux).trans (hb35.mono (U ux).size))
 have HX5:=hide (bM (U HX) hb35 ja)
 have HY5:=hide (aY w4 [.slice ag2 G2.length cg2,.int .i64 hb.n,.slice aq2 hb.l.length cq2,.int .i64 hb.t.gr,.int .i64 hb.t.ac,.int .i64 hb.t.rf,.int .i64 hb.t.tr,.int .i64 hb.t.vo,.int .i64 hb.t.no,.int .i64 hb.t.li,.int .i64 hb.t.le] 32)
 have jE:=hide (dS (U HRG) hb35 (Nat.le_refl _))
 have HH5:=hide (dS kJ hal (Nat.le_refl _))
 have kP:=hide (zn (U HRO) hb35 (Nat.le_refl _))
 have HP5:=hide (zn hro hal (Nat.le_refl _))
 have pd:w2.heap.size < w4.heap.size∧w4.heap.size < (w4.alloc (Obj.cells #[.slice ag2 G2.length cg2,.int .i64 hb.n,.slice aq2 hb.l.length cq2,.int .i64 hb.t.gr,.int .i64 hb.t.ac,.int .i64 hb.t.rf,.int .i64 hb.t.tr,.int .i64 hb.t.vo,.int .i64 hb.t.no,.int .i64 hb.t.li,.int .i64 hb.t.le] 32)).heap.size:=⟨yJ ja hb34.size,by simp⟩
 clear uk oq uC xC hb34 hb35 hal qq qc vd kJ hro HRC HRG HRO HX ux HSM HR HBT
 have x0:=zJ (U HX5) 0 rfl
 have y0:=zJ (U HY5) 0 rfl
 go_wp2_with fail
 generalize (w4.alloc (Obj.cells #[.slice ag2 G2.length cg2,.int .i64 hb.n,.slice aq2 hb.l.length cq2,.int .i64 hb.t.gr,.int .i64 hb.t.ac,.int .i64 hb.t.rf,.int .i64 hb.t.tr,.int .i64 hb.t.vo,.int .i64 hb.t.no,.int .i64 hb.t.li,.int .i64 hb.t.le] 32)) = W5 at km HX5 HY5 jE HH5 kP HP5 pd x0 y0 ⊢
 refine (smGs_eq _ _ hb.g G2 (U HEG) W5 (U jE) (U HH5)).mono ?_
 rintro e w6 ⟨rfl,jA⟩
 have h26:w2.heap.size < w6.heap.size:=yJ (Nat.lt_trans pd.1 pd.2) jA.size
 have h46:w4.heap.size < w6.heap.size:=yJ pd.2 jA.size
 have kb:=hide ((U km).trans (jA.mono (U km).size))
 have HX6:=hide (bM (U HX5) jA (Nat.lt_trans pd.1 pd.2))
 have HY6:=hide (bM (U HY5) jA pd.2)
 have kr:=hide (dS (U jE) jA (Nat.le_refl _))
 have HO6:=hide (zn (U kP) jA (Nat.le_refl _))
 have HP6:=hide (zn (U HP5) jA (Nat.le_refl _))
 clear jA km HX5 HY5 jE HH5 kP HP5 x0 y0 pd ja HEG HGM2 HLL
 have x1:=zJ (U HX6) 1 rfl
 have y1:=zJ (U HY6) 1 rfl
 have x2:=zJ (U HX6) 2 rfl
 have y2:=zJ (U HY6) 2 rfl
 go_wp2_with fail
 refine (smBook_same hb.n _ _ hb.l w6 (U HO6) (U HP6)).mono ?_
 rintro e w7 ⟨rfl,qx⟩
 have kc:=hide ((U kb).trans (qx.mono (U kb).size))
 have HX7:=hide (bM (U HX6) qx h26)
 have HY7:=hide (bM (U HY6) qx h46)
 have pD:=hide (dS (U kr) qx (Nat.le_refl _))
 have HO7:=hide (zn (U HO6) qx (Nat.le_refl _))
 have h27:w2.heap.size < w7.heap.size:=yJ h26 qx.size
 clear qx kb HX6 HY6 kr HO6 HP6 x1 y1 x2 y2 h46 h26
 have y1:=zJ (U HY7) 1 rfl
 obtain ⟨N,hN⟩:=Int.eq_ofNat_of_zero_le (show 0 ≤ hb.n by have:=(U HOF).n1; omega)
 have hN2:N ≤ 1000000:=by have:=(U HOF).n2; omega
 have HNN:Hid (hb.n = N):=hN
 rw [hN] at y1
 have hwm:IntKind.i64.wrap ((N:Int) + 1) = ((N + 1:Nat):Int):=by rw [IntKind.wrap_i64]; omega
 obtain ⟨i0,hi,uF,uJ,uQ⟩:=info_parts Tryz.infoIntC
 clear hN
 go_wp2_with (at_make; go_must (refine wpList_make_full _ rfl _ _ 55 rfl w7.heap.size 3 i0 (.int .i64 0) 1 Tryz.underlying55 hi uF uJ _ _ _ _ (N + 1) rfl rfl (by first | rfl | omega) (by first | rfl | omega) (by rw [uQ]; omega) (by unfold maxLen; omega) (Nat.le_refl _) ?_); intro w8 hown8 hg8)
 have oD:=hide (tb_made (Nat.succ_pos N) hown8 hg8)
 clear hown8 hg8 y1 HY7 hwm
 generalize Value.tuple #[Value.agg #[.slice ag hb.g.length cg,.int .i64 hb.n,.slice aq hb.l.length cq,.int .i64 hb.t.gr,.int .i64 hb.t.ac,.int .i64 hb.t.rf,.int .i64 hb.t.tr,.int .i64 hb.t.vo,.int .i64 hb.t.no,.int .i64 hb.t.li,.int .i64 hb.t.le],.int .i64 0] = dA
 generalize Value.agg #[.slice ag hb.g.length cg,.int .i64 hb.n,.slice aq hb.l.length cq,.int .i64 hb.t.gr,.int .i64 hb.t.ac,.int .i64 hb.t.rf,.int .i64 hb.t.tr,.int .i64 hb.t.vo,.int .i64 hb.t.no,.int .i64 hb.t.li,.int .i64 hb.t.le] = dB
 generalize Value.tuple #[Value.agg #[.slice ag2 G2.length cg2,.int .i64 hb.n,.slice aq2 hb.l.length cq2,.int .i64 hb.t.gr,.int .i64 hb.t.ac,.int .i64 hb.t.rf,.int .i64 hb.t.tr,.int .i64 hb.t.vo,.int .i64 hb.t.no,.int .i64 hb.t.li,.int .i64 hb.t.le],.int .i64 0] = dC
 generalize Value.agg #[.slice ag2 G2.length cg2,.int .i64 hb.n,.slice aq2 hb.l.length cq2,.int .i64 hb.t.gr,.int .i64 hb.t.ac,.int .i64 hb.t.rf,.int .i64 hb.t.tr,.int .i64 hb.t.vo,.int .i64 hb.t.no,.int .i64 hb.t.li,.int .i64 hb.t.le] = dD
 generalize Value.agg #[.int .i64 hb.n,.slice aq hb.l.length cq] = dE
 generalize Value.agg #[.int .i64 hb.n,.slice aq2 hb.l.length cq2] = dG
 have hg27:hb.g.length ≤ 27:=by rw [U kM]; omega
 have kX:hb.l.length ≤ 20:=(U HOF).len
 go_loopw [8] (fun i wr=>∃ k:Nat,k ≤ hb.g.length∧i = .int .i64 k∧TbI w7.heap.size (N + 1) w7 (tg k) wr) (fun i _=>hb.g.length - (intOf i).toNat)
 case atStart=>exact ⟨0,Nat.zero_le _,rfl,by rw [(U HL).z]; exact U oD⟩
 case round =>
  obtain ⟨k,hk,rfl,px⟩:=hrel
  have qv:=hide px
  have x0:wr.cell? ⟨w2.heap.size,0,none⟩ = some (.slice ag hb.g.length cg):=zJ (bM (U HX7) px.b h27) 0 rfl
  clear px
  by_cases xJ:k < hb.g.length
  ·obtain ⟨es,vh⟩:∃ es,hb.g[k]? = some es:=⟨_,yH xJ⟩
   obtain ⟨hel,hcon⟩:=(U HL).g k es vh
   have HCN:=hide hcon
   have un:(k:Int) < hb.g.length:=by omega
   obtain ⟨gb,go,ga,gc,rfl,hgb,g0,hre⟩:∃ gb go ga gc,ag = some ⟨gb,go,none⟩∧gb < w7.heap.size∧w7.cell? ⟨gb,go + k,none⟩ = some (.slice ga es.length gc)∧RdR Ev.vs 14 w7 (.slice ga es.length gc) es:=by
    obtain ⟨a1,c1,e1,-,G⟩:=U pD
    simp only [Value.slice.injEq,true_and] at e1
    obtain ⟨b,off,E,ki,h3⟩:=G (by intro h; rw [h] at vh; simp at vh)
    obtain ⟨g,h4,h5⟩:=h3 k es vh
    obtain ⟨ga,gc,rfl,-⟩:=id h5
    exact ⟨b,off,ga,gc,e1.1.trans E,ki,h4,h5⟩
   have HG0:=hide g0
   have vJ:=hide hre
   clear g0 hre vh hcon
   rw [U HNN] at HCN
   go_wp2_with fail
   go_loopw [9,10] (fun av jv wq=>∃ (j:Nat) (a0:Int) (xm:Int→Int),j ≤ es.length∧jv = .int .i64 j∧av = .int .i64 a0∧Con N (es.drop j) a0 xm (tg (k + 1))∧TbI w7.heap.size (N + 1) w7 xm wq) (fun _ jv _=>es.length - (intOf jv).toNat)
   case atStart=>exact ⟨0,0,tg k,Nat.zero_le _,rfl,rfl,U HCN,U qv⟩
   case round =>
    obtain ⟨j,a0,xm,K,rfl,rfl,hcn,px⟩:=hrel
    clear qv HCN x0
    have HCN:=hide hcn
    have qv:=hide px
    have x0:wr.cell? ⟨w2.heap.size,0,none⟩ = some (.slice (some ⟨gb,go,none⟩) hb.g.length cg):=zJ (bM (U HX7) px.b h27) 0 rfl
    have g0:wr.cell? ⟨gb,go + k,none⟩ = some (.slice ga es.length gc):=(px.b.cell (p:=⟨gb,go + k,none⟩) hgb).trans (U HG0)
    have hsr:=px.s
    clear hcn px
    by_cases hjl:j < es.length
    ·obtain ⟨x,hx⟩:∃ x,es[j]? = some x:=⟨_,yH hjl⟩
     have hjl':(j:Int) < es.length:=by omega
     obtain ⟨eb,eo,rfl,hxr⟩:∃ eb eo,ga = some ⟨eb,eo,none⟩∧wr.rangeAt eb (eo + j * 14) x.vs:=by
      obtain ⟨a1,c1,e1,-,G⟩:=U vJ
      simp only [Value.slice.injEq,true_and] at e1
      obtain ⟨b,off,E,ki,h3⟩:=G (by intro h; rw [h] at hx; simp at hx)
      exact ⟨b,off,e1.1.trans E,zb (h3 j x hx) (U qv).b ki⟩
     have e2:es.drop j = x :: es.drop (j + 1):=by
      have G:=xc hjl
      rw [G,(yG.1 hx).2]
     rw [e2] at HCN
     obtain ⟨po,qd,qe,oq⟩:=U HCN
     have HBD:=hide po
     clear hx HCN e2 po
     have uW:=hide hxr
     clear hxr
     have hsf:=sfl
     rcases oq with ⟨jq,hc⟩ | ⟨jq,pv,vu,hc⟩ | ⟨jq,pv,vu,hc⟩ | ⟨jq,hc⟩ | ⟨jq | jq,pv,vu,hc⟩ | ⟨jq,pv,vu,kY,hc⟩ | ⟨jq | jq,hc⟩
     ·as_aux_lemma =>
       obtain ⟨kd,⟨mk,ms,mt,ml,mq,mi,mp,mg⟩,id,ot,O,pr,rs⟩:=x
       simp only at jq qd qe hc
       subst jq
       obtain ⟨oF,oG,oH,oI,oJ,oK,oL,oM,oN,oO,qi,qj,qk,ql⟩:=bD (U uW)
       simp only at oF oG oH oI oJ oK oL oM oN oO qi qj qk ql
       clear uW
       have qD:=hide (aY wr [.int .i64 1,.int .i64 mk,.int .i64 ms,.int .i64 mt,.int .i64 ml,.int .i64 mq,.int .i64 mi,.float .f64 mp,.string mg,.int .i64 id,.int .i64 ot,.int .i64 O,.int .i64 pr,.int .i64 rs] 46)
       have uP:=hide (bi (U qv) (Obj.cells #[.int .i64 1,.int .i64 mk,.int .i64 ms,.int .i64 mt,.int .i64 ml,.int .i64 mq,.int .i64 mi,.float .f64 mp,.string mg,.int .i64 id,.int .i64 ot,.int .i64 O,.int .i64 pr,.int .i64 rs] 46))
       have b0:=zJ (U qD) 0 rfl
       have HC:=hide hc
       clear hc
       have b5:=zJ (U qD) 5 rfl
       go_wp2_with fail
       go_roundw
       case rel=>exact ⟨j + 1,mq,xm,by omega,by go_num,rfl,U HC,U uP⟩
       case measure=>simp [intOf]; omega
       all_goals exact ⟨⟨j + 1,mq,xm,by omega,by go_num,rfl,U HC,U uP⟩,by simp [intOf]; omega⟩
     ·as_aux_lemma =>
       obtain ⟨kd,⟨mk,ms,mt,ml,mq,mi,mp,mg⟩,id,ot,O,pr,rs⟩:=x
       simp only at jq qd qe hc pv vu
       subst jq
       obtain ⟨q,rfl⟩:=Int.eq_ofNat_of_zero_le pv
       obtain ⟨oF,oG,oH,oI,oJ,oK,oL,oM,oN,oO,qi,qj,qk,ql⟩:=bD (U uW)
       simp only at oF oG oH oI oJ oK oL oM oN oO qi qj qk ql
       clear uW
       have qD:=hide (aY wr [.int .i64 3,.int .i64 mk,.int .i64 ms,.int .i64 mt,.int .i64 ml,.int .i64 mq,.int .i64 mi,.float .f64 mp,.string mg,.int .i64 id,.int .i64 (q:Int),.int .i64 O,.int .i64 pr,.int .i64 rs] 46)
       have uP:=hide (bi (U qv) (Obj.cells #[.int .i64 3,.int .i64 mk,.int .i64 ms,.int .i64 mt,.int .i64 ml,.int .i64 mq,.int .i64 mi,.float .f64 mp,.string mg,.int .i64 id,.int .i64 (q:Int),.int .i64 O,.int .i64 pr,.int .i64 rs] 46))
       have b0:=zJ (U qD) 0 rfl
       have hqm:q < N + 1:=by omega
       have hqm':(q:Int) < (N:Int) + 1:=by omega
       have hA:=(U HBD).2 (q:Int)
       have b10:=zJ (U qD) 10 rfl
       obtain ⟨t1,z1⟩:=tb_at (U uP) (k:=(q:Int)) (by omega) (by omega)
       rw [Int.toNat_natCast] at t1 z1
       have hba:=(U HBD).1
       have HC:=hide hc
       clear hc
       have hw1:IntKind.i64.wrap (a0 - O) = a0 - O:=by rw [IntKind.wrap_i64]; omega
       have hw2:IntKind.i64.wrap (xm (q:Int) - O) = xm (q:Int) - O:=by rw [IntKind.wrap_i64]; omega
       have b11:=zJ (U qD) 11 rfl
       go_wp2_with fail
       go_region_with fail
       go_wp2_with fail
       go_roundw
       case rel=>exact ⟨j + 1,a0 - O,upI xm q (xm q - O),by omega,by go_num,rfl,U HC,by have:=bi (cw (U qv) (k:=(q:Int)) (by omega) (by omega) (xm q - O)) (Obj.cells #[.int .i64 3,.int .i64 mk,.int .i64 ms,.int .i64 mt,.int .i64 ml,.int .i64 mq,.int .i64 mi,.float .f64 mp,.string mg,.int .i64 id,.int .i64 (q:Int),.int .i64 O,.int .i64 pr,.int .i64 rs] 46); rw [Int.toNat_natCast] at this; first | exact this | exact tb_dr this | exact bX this _⟩
       case measure=>simp [intOf]; omega
       all_goals exact ⟨⟨j + 1,a0 - O,upI xm q (xm q - O),by omega,by go_num,rfl,U HC,by have:=bi (cw (U qv) (k:=(q:Int)) (by omega) (by omega) (xm q - O)) (Obj.cells #[.int .i64 3,.int .i64 mk,.int .i64 ms,.int .i64 mt,.int .i64 ml,.int .i64 mq,.int .i64 mi,.float .f64 mp,.string mg,.int .i64 id,.int .i64 (q:Int),.int .i64 O,.int .i64 pr,.int .i64 rs] 46); rw [Int.toNat_natCast] at this; first | exact this | exact tb_dr this | exact bX this _⟩,by simp [intOf]; omega⟩
     ·as_aux_lemma =>
       obtain ⟨kd,⟨mk,ms,mt,ml,mq,mi,mp,mg⟩,id,ot,O,pr,rs⟩:=x
       simp only at jq qd qe hc pv vu
       subst jq
       obtain ⟨q,rfl⟩:=Int.eq_ofNat_of_zero_le pv
       obtain ⟨oF,oG,oH,oI,oJ,oK,oL,oM,oN,oO,qi,qj,qk,ql⟩:=bD (U uW)
       simp only at oF oG oH oI oJ oK oL oM oN oO qi qj qk ql
       clear uW
       have qD:=hide (aY wr [.int .i64 4,.int .i64 mk,.int .i64 ms,.int .i64 mt,.int .i64 ml,.int .i64 mq,.int .i64 mi,.float .f64 mp,.string mg,.int .i64 (q:Int),.int .i64 ot,.int .i64 O,.int .i64 pr,.int .i64 rs] 46)
       have uP:=hide (bi (U qv) (Obj.cells #[.int .i64 4,.int .i64 mk,.int .i64 ms,.int .i64 mt,.int .i64 ml,.int .i64 mq,.int .i64 mi,.float .f64 mp,.string mg,.int .i64 (q:Int),.int .i64 ot,.int .i64 O,.int .i64 pr,.int .i64 rs] 46))
       have b0:=zJ (U qD) 0 rfl
       have hqm:q < N + 1:=by omega
       have hqm':(q:Int) < (N:Int) + 1:=by omega
       have hA:=(U HBD).2 (q:Int)
       have b9:=zJ (U qD) 9 rfl
       obtain ⟨t1,z1⟩:=tb_at (U uP) (k:=(q:Int)) (by omega) (by omega)
       rw [Int.toNat_natCast] at t1 z1
       have hba:=(U HBD).1
       have HC:=hide hc
       clear hc
       have hw1:IntKind.i64.wrap (a0 - O) = a0 - O:=by rw [IntKind.wrap_i64]; omega
       have b11:=zJ (U qD) 11 rfl
       go_wp2_with fail
       go_roundw
       case rel=>exact ⟨j + 1,a0 - O,upI xm q O,by omega,by go_num,rfl,U HC,by have:=bi (cw (U qv) (k:=(q:Int)) (by omega) (by omega) (O)) (Obj.cells #[.int .i64 4,.int .i64 mk,.int .i64 ms,.int .i64 mt,.int .i64 ml,.int .i64 mq,.int .i64 mi,.float .f64 mp,.string mg,.int .i64 (q:Int),.int .i64 ot,.int .i64 O,.int .i64 pr,.int .i64 rs] 46); rw [Int.toNat_natCast] at this; first | exact this | exact tb_dr this | exact bX this _⟩
       case measure=>simp [intOf]; omega
       all_goals exact ⟨⟨j + 1,a0 - O,upI xm q O,by omega,by go_num,rfl,U HC,by have:=bi (cw (U qv) (k:=(q:Int)) (by omega) (by omega) (O)) (Obj.cells #[.int .i64 4,.int .i64 mk,.int .i64 ms,.int .i64 mt,.int .i64 ml,.int .i64 mq,.int .i64 mi,.float .f64 mp,.string mg,.int .i64 (q:Int),.int .i64 ot,.int .i64 O,.int .i64 pr,.int .i64 rs] 46); rw [Int.toNat_natCast] at this; first | exact this | exact tb_dr this | exact bX this _⟩,by simp [intOf]; omega⟩
     ·as_aux_lemma =>
       obtain ⟨kd,⟨mk,ms,mt,ml,mq,mi,mp,mg⟩,id,ot,O,pr,rs⟩:=x
       simp only at jq qd qe hc
       subst jq
       obtain ⟨oF,oG,oH,oI,oJ,oK,oL,oM,oN,oO,qi,qj,qk,ql⟩:=bD (U uW)
       simp only at oF oG oH oI oJ oK oL oM oN oO qi qj qk ql
       clear uW
       have qD:=hide (aY wr [.int .i64 5,.int .i64 mk,.int .i64 ms,.int .i64 mt,.int .i64 ml,.int .i64 mq,.int .i64 mi,.float .f64 mp,.string mg,.int .i64 id,.int .i64 ot,.int .i64 O,.int .i64 pr,.int .i64 rs] 46)
       have uP:=hide (bi (U qv) (Obj.cells #[.int .i64 5,.int .i64 mk,.int .i64 ms,.int .i64 mt,.int .i64 ml,.int .i64 mq,.int .i64 mi,.float .f64 mp,.string mg,.int .i64 id,.int .i64 ot,.int .i64 O,.int .i64 pr,.int .i64 rs] 46))
       have b0:=zJ (U qD) 0 rfl
       have hba:=(U HBD).1
       have HC:=hide hc
       clear hc
       have hw1:IntKind.i64.wrap (a0 - O) = a0 - O:=by rw [IntKind.wrap_i64]; omega
       have b11:=zJ (U qD) 11 rfl
       go_wp2_with fail
       go_roundw
       case rel=>exact ⟨j + 1,a0 - O,xm,by omega,by go_num,rfl,U HC,U uP⟩
       case measure=>simp [intOf]; omega
       all_goals exact ⟨⟨j + 1,a0 - O,xm,by omega,by go_num,rfl,U HC,U uP⟩,by simp [intOf]; omega⟩
     ·as_aux_lemma =>
       obtain ⟨kd,⟨mk,ms,mt,ml,mq,mi,mp,mg⟩,id,ot,O,pr,rs⟩:=x
       simp only at jq qd qe hc pv vu
       subst jq
       obtain ⟨q,rfl⟩:=Int.eq_ofNat_of_zero_le pv
       obtain ⟨oF,oG,oH,oI,oJ,oK,oL,oM,oN,oO,qi,qj,qk,ql⟩:=bD (U uW)
       simp only at oF oG oH oI oJ oK oL oM oN oO qi qj qk ql
       clear uW
       have qD:=hide (aY wr [.int .i64 6,.int .i64 mk,.int .i64 ms,.int .i64 mt,.int .i64 ml,.int .i64 mq,.int .i64 mi,.float .f64 mp,.string mg,.int .i64 (q:Int),.int .i64 ot,.int .i64 O,.int .i64 pr,.int .i64 rs] 46)
       have uP:=hide (bi (U qv) (Obj.cells #[.int .i64 6,.int .i64 mk,.int .i64 ms,.int .i64 mt,.int .i64 ml,.int .i64 mq,.int .i64 mi,.float .f64 mp,.string mg,.int .i64 (q:Int),.int .i64 ot,.int .i64 O,.int .i64 pr,.int .i64 rs] 46))
       have b0:=zJ (U qD) 0 rfl
       have hqm:q < N + 1:=by omega
       have hqm':(q:Int) < (N:Int) + 1:=by omega
       have hA:=(U HBD).2 (q:Int)
       have b9:=zJ (U qD) 9 rfl
       obtain ⟨t1,z1⟩:=tb_at (U uP) (k:=(q:Int)) (by omega) (by omega)
       rw [Int.toNat_natCast] at t1 z1
       have hba:=(U HBD).1
       have HC:=hide hc
       clear hc
       have hw2:IntKind.i64.wrap (xm (q:Int) - O) = xm (q:Int) - O:=by rw [IntKind.wrap_i64]; omega
       have b11:=zJ (U qD) 11 rfl
       go_wp2_with fail
       go_region_with fail
       go_wp2_with fail
       go_roundw
       case rel=>exact ⟨j + 1,a0,upI xm q (xm q - O),by omega,by go_num,rfl,U HC,by have:=bi (cw (U qv) (k:=(q:Int)) (by omega) (by omega) (xm q - O)) (Obj.cells #[.int .i64 6,.int .i64 mk,.int .i64 ms,.int .i64 mt,.int .i64 ml,.int .i64 mq,.int .i64 mi,.float .f64 mp,.string mg,.int .i64 (q:Int),.int .i64 ot,.int .i64 O,.int .i64 pr,.int .i64 rs] 46); rw [Int.toNat_natCast] at this; first | exact this | exact tb_dr this | exact bX this _⟩
       case measure=>simp [intOf]; omega
       all_goals exact ⟨⟨j + 1,a0,upI xm q (xm q - O),by omega,by go_num,rfl,U HC,by have:=bi (cw (U qv) (k:=(q:Int)) (by omega) (by omega) (xm q - O)) (Obj.cells #[.int .i64 6,.int .i64 mk,.int .i64 ms,.int .i64 mt,.int .i64 ml,.int .i64 mq,.int .i64 mi,.float .f64 mp,.string mg,.int .i64 (q:Int),.int .i64 ot,.int .i64 O,.int .i64 pr,.int .i64 rs] 46); rw [Int.toNat_natCast] at this; first | exact this | exact tb_dr this | exact bX this _⟩,by simp [intOf]; omega⟩
     ·as_aux_lemma =>
       obtain ⟨kd,⟨mk,ms,mt,ml,mq,mi,mp,mg⟩,id,ot,O,pr,rs⟩:=x
       simp only at jq qd qe hc pv vu
       subst jq
       obtain ⟨q,rfl⟩:=Int.eq_ofNat_of_zero_le pv
       obtain ⟨oF,oG,oH,oI,oJ,oK,oL,oM,oN,oO,qi,qj,qk,ql⟩:=bD (U uW)
       simp only at oF oG oH oI oJ oK oL oM oN oO qi qj qk ql
       clear uW
       have qD:=hide (aY wr [.int .i64 9,.int .i64 mk,.int .i64 ms,.int .i64 mt,.int .i64 ml,.int .i64 mq,.int .i64 mi,.float .f64 mp,.string mg,.int .i64 (q:Int),.int .i64 ot,.int .i64 O,.int .i64 pr,.int .i64 rs] 46)
       have uP:=hide (bi (U qv) (Obj.cells #[.int .i64 9,.int .i64 mk,.int .i64 ms,.int .i64 mt,.int .i64 ml,.int .i64 mq,.int .i64 mi,.float .f64 mp,.string mg,.int .i64 (q:Int),.int .i64 ot,.int .i64 O,.int .i64 pr,.int .i64 rs] 46))
       have b0:=zJ (U qD) 0 rfl
       have hqm:q < N + 1:=by omega
       have hqm':(q:Int) < (N:Int) + 1:=by omega
       have hA:=(U HBD).2 (q:Int)
       have b9:=zJ (U qD) 9 rfl
       obtain ⟨t1,z1⟩:=tb_at (U uP) (k:=(q:Int)) (by omega) (by omega)
       rw [Int.toNat_natCast] at t1 z1
       have hba:=(U HBD).1
       have HC:=hide hc
       clear hc
       have hw2:IntKind.i64.wrap (xm (q:Int) - O) = xm (q:Int) - O:=by rw [IntKind.wrap_i64]; omega
       have b11:=zJ (U qD) 11 rfl
       go_wp2_with fail
       go_region_with fail
       go_wp2_with fail
       go_roundw
       case rel=>exact ⟨j + 1,a0,upI xm q (xm q - O),by omega,by go_num,rfl,U HC,by have:=bi (cw (U qv) (k:=(q:Int)) (by omega) (by omega) (xm q - O)) (Obj.cells #[.int .i64 9,.int .i64 mk,.int .i64 ms,.int .i64 mt,.int .i64 ml,.int .i64 mq,.int .i64 mi,.float .f64 mp,.string mg,.int .i64 (q:Int),.int .i64 ot,.int .i64 O,.int .i64 pr,.int .i64 rs] 46); rw [Int.toNat_natCast] at this; first | exact this | exact tb_dr this | exact bX this _⟩
       case measure=>simp [intOf]; omega
       all_goals exact ⟨⟨j + 1,a0,upI xm q (xm q - O),by omega,by go_num,rfl,U HC,by have:=bi (cw (U qv) (k:=(q:Int)) (by omega) (by omega) (xm q - O)) (Obj.cells #[.int .i64 9,.int .i64 mk,.int .i64 ms,.int .i64 mt,.int .i64 ml,.int .i64 mq,.int .i64 mi,.float .f64 mp,.string mg,.int .i64 (q:Int),.int .i64 ot,.int .i64 O,.int .i64 pr,.int .i64 rs] 46); rw [Int.toNat_natCast] at this; first | exact this | exact tb_dr this | exact bX this _⟩,by simp [intOf]; omega⟩
     ·as_aux_lemma =>
       obtain ⟨kd,⟨mk,ms,mt,ml,mq,mi,mp,mg⟩,id,ot,O,pr,rs⟩:=x
       simp only at jq qd qe hc pv vu kY
       subst jq
       obtain ⟨q,rfl⟩:=Int.eq_ofNat_of_zero_le pv
       obtain ⟨oF,oG,oH,oI,oJ,oK,oL,oM,oN,oO,qi,qj,qk,ql⟩:=bD (U uW)
       simp only at oF oG oH oI oJ oK oL oM oN oO qi qj qk ql
       clear uW
       have qD:=hide (aY wr [.int .i64 7,.int .i64 mk,.int .i64 ms,.int .i64 mt,.int .i64 ml,.int .i64 mq,.int .i64 mi,.float .f64 mp,.string mg,.int .i64 (q:Int),.int .i64 ot,.int .i64 O,.int .i64 pr,.int .i64 rs] 46)
       have uP:=hide (bi (U qv) (Obj.cells #[.int .i64 7,.int .i64 mk,.int .i64 ms,.int .i64 mt,.int .i64 ml,.int .i64 mq,.int .i64 mi,.float .f64 mp,.string mg,.int .i64 (q:Int),.int .i64 ot,.int .i64 O,.int .i64 pr,.int .i64 rs] 46))
       have b0:=zJ (U qD) 0 rfl
       have hqm:q < N + 1:=by omega
       have hqm':(q:Int) < (N:Int) + 1:=by omega
       have hA:=(U HBD).2 (q:Int)
       have b9:=zJ (U qD) 9 rfl
       obtain ⟨t1,z1⟩:=tb_at (U uP) (k:=(q:Int)) (by omega) (by omega)
       rw [Int.toNat_natCast] at t1 z1
       have hba:=(U HBD).1
       have hlt3:¬ (xm (q:Int) ≤ O):=by omega
       have HC:=hide hc
       clear hc
       have b11:=zJ (U qD) 11 rfl
       go_wp2_with fail
       go_quiet (fail)
       go_wp2_with fail
       go_roundw
       case rel=>exact ⟨j + 1,a0,upI xm q O,by omega,by go_num,rfl,U HC,by have h:=fun n=>cw (bX (U uP) n) (k:=(q:Int)) (by omega) (by omega) O; simp only [Int.toNat_natCast] at h; exact h _⟩
       case measure=>simp [intOf]; omega
       all_goals exact ⟨⟨j + 1,a0,upI xm q O,by omega,by go_num,rfl,U HC,by have h:=fun n=>cw (bX (U uP) n) (k:=(q:Int)) (by omega) (by omega) O; simp only [Int.toNat_natCast] at h; exact h _⟩,by simp [intOf]; omega⟩
     ·as_aux_lemma =>
       obtain ⟨kd,⟨mk,ms,mt,ml,mq,mi,mp,mg⟩,id,ot,O,pr,rs⟩:=x
       simp only at jq qd qe hc
       subst jq
       obtain ⟨oF,oG,oH,oI,oJ,oK,oL,oM,oN,oO,qi,qj,qk,ql⟩:=bD (U uW)
       simp only at oF oG oH oI oJ oK oL oM oN oO qi qj qk ql
       clear uW
       have qD:=hide (aY wr [.int .i64 2,.int .i64 mk,.int .i64 ms,.int .i64 mt,.int .i64 ml,.int .i64 mq,.int .i64 mi,.float .f64 mp,.string mg,.int .i64 id,.int .i64 ot,.int .i64 O,.int .i64 pr,.int .i64 rs] 46)
       have uP:=hide (bi (U qv) (Obj.cells #[.int .i64 2,.int .i64 mk,.int .i64 ms,.int .i64 mt,.int .i64 ml,.int .i64 mq,.int .i64 mi,.float .f64 mp,.string mg,.int .i64 id,.int .i64 ot,.int .i64 O,.int .i64 pr,.int .i64 rs] 46))
       have b0:=zJ (U qD) 0 rfl
       have HC:=hide hc
       clear hc
       go_wp2_with fail
       go_roundw
       case rel=>exact ⟨j + 1,a0,xm,by omega,by go_num,rfl,U HC,U uP⟩
       case measure=>simp [intOf]; omega
       all_goals exact ⟨⟨j + 1,a0,xm,by omega,by go_num,rfl,U HC,U uP⟩,by simp [intOf]; omega⟩
     ·as_aux_lemma =>
       obtain ⟨kd,⟨mk,ms,mt,ml,mq,mi,mp,mg⟩,id,ot,O,pr,rs⟩:=x
       simp only at jq qd qe hc
       subst jq
       obtain ⟨oF,oG,oH,oI,oJ,oK,oL,oM,oN,oO,qi,qj,qk,ql⟩:=bD (U uW)
       simp only at oF oG oH oI oJ oK oL oM oN oO qi qj qk ql
       clear uW
       have qD:=hide (aY wr [.int .i64 8,.int .i64 mk,.int .i64 ms,.int .i64 mt,.int .i64 ml,.int .i64 mq,.int .i64 mi,.float .f64 mp,.string mg,.int .i64 id,.int .i64 ot,.int .i64 O,.int .i64 pr,.int .i64 rs] 46)
       have uP:=hide (bi (U qv) (Obj.cells #[.int .i64 8,.int .i64 mk,.int .i64 ms,.int .i64 mt,.int .i64 ml,.int .i64 mq,.int .i64 mi,.float .f64 mp,.string mg,.int .i64 id,.int .i64 ot,.int .i64 O,.int .i64 pr,.int .i64 rs] 46))
       have b0:=zJ (U qD) 0 rfl
       have HC:=hide hc
       clear hc
       go_wp2_with fail
       go_roundw
       case rel=>exact ⟨j + 1,a0,xm,by omega,by go_num,rfl,U HC,U uP⟩
       case measure=>simp [intOf]; omega
       all_goals exact ⟨⟨j + 1,a0,xm,by omega,by go_num,rfl,U HC,U uP⟩,by simp [intOf]; omega⟩
    ·have hjl':¬ ((j:Int) < es.length):=by omega
     have hcn:=U HCN
     rw [xa (by omega)] at hcn
     obtain ⟨hz,he,-⟩:=hcn
     subst hz
     have HTE:Hid (TbI w7.heap.size (N + 1) w7 (tg (k + 1)) wr):=by rw [← he]; exact U qv
     clear he
     go_wp2_with fail
     go_roundw
     case rel=>exact ⟨k + 1,by omega,by go_num,U HTE⟩
     case measure=>simp [intOf]; omega
  ·obtain rfl:k = hb.g.length:=by omega
   have un:¬ ((hb.g.length:Int) < hb.g.length):=by omega
   rw [(U HL).e] at qv
   as_aux_lemma =>
    go_wp2_with fail
    clear HL HGM kM pD x0 un
    go_loopw [12] (fun i wq=>∃ k:Nat,k ≤ hb.l.length∧i = .int .i64 k∧TbI w7.heap.size (N + 1) w7 (lk (hb.l.drop k)) wq) (fun i _=>hb.l.length - (intOf i).toNat)
    case atStart=>exact ⟨0,Nat.zero_le _,rfl,U qv⟩
    case round =>
     obtain ⟨k,hk,rfl,px⟩:=hrel
     clear qv
     have qv:=hide px
     have x2:wr.cell? ⟨w2.heap.size,2,none⟩ = some (.slice aq hb.l.length cq):=zJ (bM (U HX7) px.b h27) 2 rfl
     clear px
     by_cases xJ:k < hb.l.length
     ·obtain ⟨x,hx⟩:∃ x,hb.l[k]? = some x:=⟨_,yH xJ⟩
      have un:(k:Int) < hb.l.length:=by omega
      have uy:=yO hx
      have vl:=okB_ids (U HOF) x uy
      rw [U HNN] at vl
      have om:hb.l.drop k = x :: hb.l.drop (k + 1):=by
       have G:=xc xJ
       rw [G,(yG.1 hx).2]
      have hrise:aV (hb.l.drop k):=rise_drop (U HOF).rise k
      have hat:lk (hb.l.drop k) x.id = x.left:=lk_at hrise (k:=0) (by rw [om]; rfl)
      have hup:upI (lk (hb.l.drop k)) x.id 0 = lk (hb.l.drop (k + 1)):=by
       funext i
       rw [upI,om,lk]
       by_cases hi2:i = x.id
       ·have h0:lk (hb.l.drop k) x.id = x.left:=hat
        rw [om,lk,if_pos rfl] at h0
        rw [if_pos hi2,hi2]; omega
       ·rw [if_neg hi2,if_neg (fun e=>hi2 e.symm)]; omega
      obtain ⟨xi,sd,tc,lf,lv,L⟩:=x
      simp only at vl hat hup
      obtain ⟨q,rfl⟩:=Int.eq_ofNat_of_zero_le (show 0 ≤ xi by omega)
      have HUP:=hide hup
      obtain ⟨eb,eo,rfl,hxr⟩:∃ eb eo,aq = some ⟨eb,eo,none⟩∧wr.rangeAt eb (eo + k * 6) (Od.mk (q:Int) sd tc lf lv L).vs:=by
       obtain ⟨a1,c1,e1,-,G⟩:=U HO7
       simp only [Value.slice.injEq,true_and] at e1
       obtain ⟨b,off,E,ki,h3⟩:=G (by intro h; rw [h] at hx; simp at hx)
       exact ⟨b,off,e1.1.trans E,zb (h3 k _ hx) (U qv).b ki⟩
      obtain ⟨p0,p1,p2,p3,p4,p5⟩:=zz hxr
      simp only at p0 p1 p2 p3 p4 p5
      have qD:=hide (aY wr [.int .i64 (q:Int),.int .i64 sd,.int .i64 tc,.int .i64 lf,.int .i64 lv,.string L] 49)
      have uP:=hide (bi (U qv) (Obj.cells #[.int .i64 (q:Int),.int .i64 sd,.int .i64 tc,.int .i64 lf,.int .i64 lv,.string L] 49))
      have hqm':(q:Int) < (N:Int) + 1:=by omega
      clear hx hxr hrise om hup uy
      generalize lk (hb.l.drop k) = xm at qv uP hat HUP
      have b0:=zJ (U qD) 0 rfl
      have b3:=zJ (U qD) 3 rfl
      have t1:=tb_at (U uP) (k:=(q:Int)) (by omega) (by omega)
      obtain ⟨t1,z1⟩:=t1
      rw [Int.toNat_natCast] at t1 z1
      rw [hat] at t1
      go_wp2_with fail
      go_quiet (fail)
      go_wp2_with fail
      go_roundw
      case rel=>exact ⟨k + 1,by omega,by go_num,by have h:=fun n=>cw (bX (U uP) n) (k:=(q:Int)) (by omega) (by omega) 0; simp only [Int.toNat_natCast,U HUP] at h; exact h _⟩
      case measure=>simp [intOf]; omega
     ·obtain rfl:k = hb.l.length:=by omega
      have un:¬ ((hb.l.length:Int) < hb.l.length):=by omega
      have HTE:Hid (TbI w7.heap.size (N + 1) w7 (fun _=>0) wr):=by
       have:=U qv
       rw [xa (Nat.le_refl _)] at this
       exact this
      clear qv
      go_wp2_with fail
      go_loopw [14] (fun i wq=>∃ k:Nat,i = .int .i64 k∧wq = wr) (fun i _=>N - (intOf i).toNat)
      case atStart=>exact ⟨1,rfl,rfl⟩
      case round =>
       obtain ⟨k,rfl,rfl⟩:=hrel
       have x1:wr.cell? ⟨w2.heap.size,1,none⟩ = some (.int .i64 (N:Int)):=by rw [← U HNN]; exact zJ (bM (U HX7) (U HTE).b h27) 1 rfl
       by_cases xJ:k < N
       ·have un:(k:Int) < N:=by omega
        have hqm':(k:Int) < (N:Int) + 1:=by omega
        have hkw:IntKind.i64.wrap ((k:Int) + 1) = (k:Int) + 1:=by rw [IntKind.wrap_i64]; omega
        obtain ⟨t1,z1⟩:=tb_at (U HTE) (k:=(k:Int)) (by omega) (by omega)
        rw [Int.toNat_natCast] at t1 z1
        go_wp2_with fail
        go_roundw
        case rel=>exact ⟨k + 1,by go_num,by first | rfl | trivial⟩
        case measure=>simp [intOf]; omega
       ·have un:¬ ((k:Int) < N):=by omega
        go_wp2_with fail
        go_ret
        exact ⟨rfl,(U kc).trans ((U HTE).b.mono (U kc).size)⟩
set_option maxRecDepth 100000 in
set_option maxHeartbeats 800000 in
theorem lawConserve (a0:Option Addr) (len0 cap0:Nat) (z0:List Int) (w:World)
  (w0:(a0 = none∧len0 = 0∧cap0 = 0∧z0 = []) ∨ ∃ x,a0 = some x∧len0 ≤ cap0∧cap0 ≤ maxLen∧z0.length = cap0∧(∀ i,i < z0.length→w.cell? (x.add i) = some (.int .u8 (z0.getD i 0)))∧∀ n ∈ z0,(Lit.int .u8 n).wf = true) :
  Calls Tryz.prog 5 #[.slice a0 len0 cap0] w fun e w'=>e = .returned (.bool true)∧Below w.heap.size w w':=by
 by_cases h0:1048576 < len0
 ·have h0':(1048576:Int) < len0:=by omega
  clear w0
  go_enter Tryz.func5,Tryz.ntmps5
  go_wp2_with fail
  go_ret
  exact ⟨rfl,Below.refl _ _⟩
 obtain ⟨e0,r0,b0⟩:=rd_of_row w0 (by omega)
 exact conLaw _ _ w r0 b0 (by omega)
end Go.Proofs.YtbakanofkghmiaaGreat
