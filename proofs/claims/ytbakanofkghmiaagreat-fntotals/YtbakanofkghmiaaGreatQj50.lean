/-
  The law of the totals, walked.
-/
import Derived.Test.YtbakanofkghmiaaGreatQj46
import Derived.Test.YtbakanofkghmiaaGreatQj49
set_option linter.unusedVariables false
set_option maxHeartbeats 6400000
set_option maxRecDepth 100000
namespace Go.Proofs.YtbakanofkghmiaaGreat
open Go.RowKit
theorem cnt_not3 {t:Tot} {e:Ev} (h:e.kind ≠ 3):(cntE t e).vo = t.vo∧(cntE t e).no = t.no∧(cntE t e).tr = t.tr:=by
 unfold cntE
 split
 ·exact ⟨rfl,rfl,rfl⟩
 ·split
  ·exact ⟨rfl,rfl,rfl⟩
  ·first | exact ⟨rfl,rfl,rfl⟩ | (rw [if_neg h]; exact ⟨rfl,rfl,rfl⟩)
set_option maxRecDepth 100000 in
set_option maxHeartbeats 6400000 in
theorem totLaw (v:Value) (l:List Int) (w:World) (hr:Rd w v l) (X:Bts l) (hl:l.length ≤ 1048576) :
  Calls Tryz.prog 7 #[v] w fun e w'=>e = .returned (.bool true)∧Below w.heap.size w w':=by
 have HR:=hide hr
 have HBT:=hide X
 obtain ⟨a,A,rfl,-,-⟩:=hr
 clear X
 have hl':¬ ((1048576:Int) < l.length):=by omega
 go_enter Tryz.func7,Tryz.ntmps7
 go_wp2_with fail
 refine (scriptOf_ex _ l w (U HR) (U HBT)).mono ?_
 rintro e w1 ⟨o,cs,rfl,hcq,xI,xV⟩
 obtain ⟨ao,co,rfl⟩:=cK xI
 have hn:cs.length ≤ 27:=by rw [csEq_len hcq]; exact (scS_ok l _).2
 have hdr:∀ c ∈ cs,DrOk c:=csEq_ok hcq (scS_ok l _).1
 have HRC:Hid (RdR Cm.vs 8 w1 (.slice ao cs.length co) cs):=cE (bK Cm.len (by omega) xI)
 have qn:Hid (∀ c ∈ cs,c.g.size ≤ maxLen):=fun c hc=>yO (hdr c hc).1 (by unfold maxLen; omega)
 have xU:=hide xV
 obtain ⟨hTO,hGL⟩:=tot_ok cs (by omega)
 have jf:=hide hTO
 have oh:=hide hGL
 have hcf:cntF cs.length = 0:=dN.2 (by omega)
 have HIM:=hide (fun W hW=>ez (.slice ao cs.length co) cs W hW (U qn))
 have HQ:=hide (fun cs2 (N:CsEq cs2 (scD l))=>run_eq (csEq_trans N (csEq_sym hcq)))
 simp only [hcf] at HIM
 generalize rsF cs = ty at jf oh HIM HQ
 have HGM:Hid (∀ es ∈ ty.g,es.length ≤ 1000):=(U jf).few
 clear hdr hcq xI xV hcf qn hTO hGL
 go_wp2_with fail
 refine (U HIM w1 (U HRC)).mono ?_
 rintro e w2 ⟨gv,vq,rfl,uc,kZ,xX⟩
 obtain ⟨gs,vT,vM,uY,-⟩:=uc.ex
 have kb:=grs_rd vT vM uY (by rw [U oh]; omega) (U HGM)
 obtain ⟨ag,cg,rfl,-⟩:=id kb
 obtain ⟨aq,cq,rfl⟩:=cK kZ
 have hro:=cE (bK Od.len (by have:=(U jf).len; omega) kZ)
 have qQ:=(U xU).trans (xX.mono (U xU).size)
 have uA:Hid (Below w.heap.size w (w2.alloc (Obj.cells #[.slice ag ty.g.length cg,.int .i64 ty.n,.slice aq ty.l.length cq,.int .i64 ty.t.gr,.int .i64 ty.t.ac,.int .i64 ty.t.rf,.int .i64 ty.t.tr,.int .i64 ty.t.vo,.int .i64 ty.t.no,.int .i64 ty.t.li,.int .i64 ty.t.le] 32))):=qQ.trans (((Below.refl _ _).alloc (Nat.le_refl _) _).mono qQ.size)
 have HX:=hide (bD w2 [.slice ag ty.g.length cg,.int .i64 ty.n,.slice aq ty.l.length cq,.int .i64 ty.t.gr,.int .i64 ty.t.ac,.int .i64 ty.t.rf,.int .i64 ty.t.tr,.int .i64 ty.t.vo,.int .i64 ty.t.no,.int .i64 ty.t.li,.int .i64 ty.t.le] 32)
 have qW:w2.heap.size < (w2.alloc (Obj.cells #[.slice ag ty.g.length cg,.int .i64 ty.n,.slice aq ty.l.length cq,.int .i64 ty.t.gr,.int .i64 ty.t.ac,.int .i64 ty.t.rf,.int .i64 ty.t.tr,.int .i64 ty.t.vo,.int .i64 ty.t.no,.int .i64 ty.t.li,.int .i64 ty.t.le] 32)).heap.size:=by simp
 have HRO:=hide (zn hro ((Below.refl w2.heap.size w2).alloc (Nat.le_refl _) (Obj.cells #[.slice ag ty.g.length cg,.int .i64 ty.n,.slice aq ty.l.length cq,.int .i64 ty.t.gr,.int .i64 ty.t.ac,.int .i64 ty.t.rf,.int .i64 ty.t.tr,.int .i64 ty.t.vo,.int .i64 ty.t.no,.int .i64 ty.t.li,.int .i64 ty.t.le] 32)) (Nat.le_refl _))
 have HRG:=hide (du kb ((Below.refl w2.heap.size w2).alloc (Nat.le_refl _) (Obj.cells #[.slice ag ty.g.length cg,.int .i64 ty.n,.slice aq ty.l.length cq,.int .i64 ty.t.gr,.int .i64 ty.t.ac,.int .i64 ty.t.rf,.int .i64 ty.t.tr,.int .i64 ty.t.vo,.int .i64 ty.t.no,.int .i64 ty.t.li,.int .i64 ty.t.le] 32)) (Nat.le_refl _))
 clear uc kZ xX vT vM uY kb hro HRC HIM xU qQ
 go_wp2_with fail
 generalize (w2.alloc (Obj.cells #[.slice ag ty.g.length cg,.int .i64 ty.n,.slice aq ty.l.length cq,.int .i64 ty.t.gr,.int .i64 ty.t.ac,.int .i64 ty.t.rf,.int .i64 ty.t.tr,.int .i64 ty.t.vo,.int .i64 ty.t.no,.int .i64 ty.t.li,.int .i64 ty.t.le] 32)) = W2 at uA HX qW HRG HRO ⊢
 refine (scriptOf_ex _ l W2 (rd_below (U HR) (U uA) (Nat.le_refl _)) (U HBT)).mono ?_
 rintro e w3 ⟨o2,cs2,rfl,hcq2,qU,um⟩
 obtain ⟨ao2,co2,rfl⟩:=cK qU
 have hn2:cs2.length ≤ 27:=by rw [csEq_len hcq2]; exact (scS_ok l _).2
 have hdr2:∀ c ∈ cs2,DrOk c:=csEq_ok hcq2 (scS_ok l _).1
 have HRC:Hid (RdR Cm.vs 8 w3 (.slice ao2 cs2.length co2) cs2):=cE (bK Cm.len (by omega) qU)
 have qn:Hid (∀ c ∈ cs2,c.g.size ≤ maxLen):=fun c hc=>yO (hdr2 c hc).1 (by unfold maxLen; omega)
 have hcf:cntF cs2.length = 0:=dN.2 (by omega)
 have HSM:=hide (fun W hW=>specRunScript_any (.slice ao2 cs2.length co2) cs2 W hW (U qn))
 simp only [hcf] at HSM
 have hq2:=U HQ cs2 hcq2
 generalize rsF cs2 = F2 at HSM hq2
 obtain ⟨n2,l2,G2,t2⟩:=F2
 obtain ⟨en,el,eg,et⟩:=hq2
 simp only at en el eg et HSM
 subst en el et
 have HEG:=hide (gsEq_sym eg)
 have HLL:Hid (G2.length = ty.g.length):=gsEq_len eg
 have HGM2:Hid (∀ es ∈ G2,es.length ≤ 1000):=fun es he=>by
  obtain ⟨i,hi⟩:=List.getElem?_of_mem he
  obtain ⟨es',Q,N⟩:=gsEq_at eg i es hi
  rw [esEq_len N]
  exact U HGM es' (yP Q)
 clear hdr2 hcq2 qU hcf qn eg HQ hn2
 go_wp2_with fail
 refine (U HSM w3 (U HRC)).mono ?_
 rintro e w4 ⟨gv,vq,rfl,uc,kZ,xD⟩
 obtain ⟨gs,vT,vM,uY⟩:=uc.ex
 have kb:=grs_rd vT vM uY (by rw [U HLL,U oh]; omega) (U HGM2)
 obtain ⟨ag2,cg2,rfl,-⟩:=id kb
 obtain ⟨aq2,cq2,rfl⟩:=cK kZ
 have hro:=cE (bK Od.len (by have:=(U jf).len; omega) kZ)
 have aA:Below w4.heap.size w4 (w4.alloc (Obj.cells #[.slice ag2 G2.length cg2,.int .i64 ty.n,.slice aq2 ty.l.length cq2,.int .i64 ty.t.gr,.int .i64 ty.t.ac,.int .i64 ty.t.rf,.int .i64 ty.t.tr,.int .i64 ty.t.vo,.int .i64 ty.t.no,.int .i64 ty.t.li,.int .i64 ty.t.le] 32)):=(Below.refl _ _).alloc (Nat.le_refl _) _
 have oK:=um.trans (xD.mono um.size)
 have hb35:=oK.trans (aA.mono oK.size)
 have jA:=hide ((U uA).trans (hb35.mono (U uA).size))
 have kt:=hide (bT (U HX) hb35 qW)
 have oo:=hide (bD w4 [.slice ag2 G2.length cg2,.int .i64 ty.n,.slice aq2 ty.l.length cq2,.int .i64 ty.t.gr,.int .i64 ty.t.ac,.int .i64 ty.t.rf,.int .i64 ty.t.tr,.int .i64 ty.t.vo,.int .i64 ty.t.no,.int .i64 ty.t.li,.int .i64 ty.t.le] 32)
 have jB:=hide (du (U HRG) hb35 (Nat.le_refl _))
 have hsz5:w2.heap.size < w4.heap.size∧w4.heap.size < (w4.alloc (Obj.cells #[.slice ag2 G2.length cg2,.int .i64 ty.n,.slice aq2 ty.l.length cq2,.int .i64 ty.t.gr,.int .i64 ty.t.ac,.int .i64 ty.t.rf,.int .i64 ty.t.tr,.int .i64 ty.t.vo,.int .i64 ty.t.no,.int .i64 ty.t.li,.int .i64 ty.t.le] 32)).heap.size:=⟨yK qW oK.size,by simp⟩
 clear uc kZ um xD oK hb35 aA vT vM uY kb hro HRC HRG HRO HX uA HSM HR HBT
 have x0:=zq (U kt) 0 rfl
 have x3:=zq (U kt) 3 rfl
 have x4:=zq (U kt) 4 rfl
 have x5:=zq (U kt) 5 rfl
 have x6:=zq (U kt) 6 rfl
 have x7:=zq (U kt) 7 rfl
 have x8:=zq (U kt) 8 rfl
 have x9:=zq (U kt) 9 rfl
 have x10:=zq (U kt) 10 rfl
 have y3:=zq (U oo) 3 rfl
 have y4:=zq (U oo) 4 rfl
 have y5:=zq (U oo) 5 rfl
 have y6:=zq (U oo) 6 rfl
 have y7:=zq (U oo) 7 rfl
 have y8:=zq (U oo) 8 rfl
 have y9:=zq (U oo) 9 rfl
 have y10:=zq (U oo) 10 rfl
 go_wp2_with fail
 generalize (w4.alloc (Obj.cells #[.slice ag2 G2.length cg2,.int .i64 ty.n,.slice aq2 ty.l.length cq2,.int .i64 ty.t.gr,.int .i64 ty.t.ac,.int .i64 ty.t.rf,.int .i64 ty.t.tr,.int .i64 ty.t.vo,.int .i64 ty.t.no,.int .i64 ty.t.li,.int .i64 ty.t.le] 32)) = W5 at jA kt oo jB hsz5 x0 x3 x4 x5 x6 x7 x8 x9 x10 y3 y4 y5 y6 y7 y8 y9 y10 ⊢
 refine (implTotalsOf_any _ ty.g W5 (U jB) (U jf).tags).mono ?_
 rintro e w6 ⟨rfl,kK⟩
 rw [(U jf).tt]
 unfold totV
 simp only
 have h26:w2.heap.size < w6.heap.size:=yK (Nat.lt_trans hsz5.1 hsz5.2) kK.size
 have aA:Below w6.heap.size w6 (w6.alloc (Obj.cells #[.int .i64 ty.t.gr,.int .i64 ty.t.ac,.int .i64 ty.t.rf,.int .i64 ty.t.tr,.int .i64 ty.t.vo,.int .i64 ty.t.no,.int .i64 ty.t.li,.int .i64 ty.t.le] 30)):=(Below.refl _ _).alloc (Nat.le_refl _) _
 have hb67:=kK.trans (aA.mono kK.size)
 have jK:=hide ((U jA).trans (hb67.mono (U jA).size))
 have HX7:=hide (bT (U kt) hb67 (Nat.lt_trans hsz5.1 hsz5.2))
 have pu:=hide (du (U jB) hb67 (Nat.le_refl _))
 have az:=hide (bD w6 [.int .i64 ty.t.gr,.int .i64 ty.t.ac,.int .i64 ty.t.rf,.int .i64 ty.t.tr,.int .i64 ty.t.vo,.int .i64 ty.t.no,.int .i64 ty.t.li,.int .i64 ty.t.le] 30)
 have h27:w2.heap.size < (w6.alloc (Obj.cells #[.int .i64 ty.t.gr,.int .i64 ty.t.ac,.int .i64 ty.t.rf,.int .i64 ty.t.tr,.int .i64 ty.t.vo,.int .i64 ty.t.no,.int .i64 ty.t.li,.int .i64 ty.t.le] 30)).heap.size∧w6.heap.size < (w6.alloc (Obj.cells #[.int .i64 ty.t.gr,.int .i64 ty.t.ac,.int .i64 ty.t.rf,.int .i64 ty.t.tr,.int .i64 ty.t.vo,.int .i64 ty.t.no,.int .i64 ty.t.li,.int .i64 ty.t.le] 30)).heap.size:=⟨by simp; omega,by simp⟩
 clear kK aA hb67 jA kt oo jB hsz5 qW HGM2 HLL x0 x3 x4 x5 x6 x7 x8 x9 x10 y3 y4 y5 y6 y7 y8 y9 y10 h26
 have hg27:ty.g.length ≤ 27:=by rw [U oh]; omega
 have uc:(ty.t.gr != (ty.g.length:Int)) = false:=by rw [(U jf).gr]; simp
 have hwa:IntKind.i64.wrap (ty.t.ac + ty.t.rf) = ty.t.ac + ty.t.rf:=by
  have Q:=(U jf).a0
  have N:=(U jf).r0
  have h3:=(U jf).ar
  rw [IntKind.wrap_i64]; omega
 have har:¬ (ty.t.gr < ty.t.ac + ty.t.rf):=by have Q:=(U jf).ar; have N:=(U jf).gr; omega
 have x0:=zq (U HX7) 0 rfl
 have x3:=zq (U HX7) 3 rfl
 have x4:=zq (U HX7) 4 rfl
 have x5:=zq (U HX7) 5 rfl
 have x6:=zq (U HX7) 6 rfl
 have x7:=zq (U HX7) 7 rfl
 have x8:=zq (U HX7) 8 rfl
 have x9:=zq (U HX7) 9 rfl
 have x10:=zq (U HX7) 10 rfl
 have t0:=zq (U az) 0 rfl
 have t1:=zq (U az) 1 rfl
 have t2:=zq (U az) 2 rfl
 have t3:=zq (U az) 3 rfl
 have t4:=zq (U az) 4 rfl
 have t5:=zq (U az) 5 rfl
 have t6:=zq (U az) 6 rfl
 have t7:=zq (U az) 7 rfl
 go_wp2_with fail
 generalize (w6.alloc (Obj.cells #[.int .i64 ty.t.gr,.int .i64 ty.t.ac,.int .i64 ty.t.rf,.int .i64 ty.t.tr,.int .i64 ty.t.vo,.int .i64 ty.t.no,.int .i64 ty.t.li,.int .i64 ty.t.le] 30)) = W7 at jK HX7 pu az h27 ⊢
 generalize Value.tuple #[Value.agg #[.slice ag ty.g.length cg,.int .i64 ty.n,.slice aq ty.l.length cq,.int .i64 ty.t.gr,.int .i64 ty.t.ac,.int .i64 ty.t.rf,.int .i64 ty.t.tr,.int .i64 ty.t.vo,.int .i64 ty.t.no,.int .i64 ty.t.li,.int .i64 ty.t.le],.int .i64 0] = dA
 generalize Value.agg #[.slice ag ty.g.length cg,.int .i64 ty.n,.slice aq ty.l.length cq,.int .i64 ty.t.gr,.int .i64 ty.t.ac,.int .i64 ty.t.rf,.int .i64 ty.t.tr,.int .i64 ty.t.vo,.int .i64 ty.t.no,.int .i64 ty.t.li,.int .i64 ty.t.le] = dB
 generalize Value.tuple #[Value.agg #[.slice ag2 G2.length cg2,.int .i64 ty.n,.slice aq2 ty.l.length cq2,.int .i64 ty.t.gr,.int .i64 ty.t.ac,.int .i64 ty.t.rf,.int .i64 ty.t.tr,.int .i64 ty.t.vo,.int .i64 ty.t.no,.int .i64 ty.t.li,.int .i64 ty.t.le],.int .i64 0] = dC
 generalize Value.agg #[.slice ag2 G2.length cg2,.int .i64 ty.n,.slice aq2 ty.l.length cq2,.int .i64 ty.t.gr,.int .i64 ty.t.ac,.int .i64 ty.t.rf,.int .i64 ty.t.tr,.int .i64 ty.t.vo,.int .i64 ty.t.no,.int .i64 ty.t.li,.int .i64 ty.t.le] = dD
 generalize Value.tuple #[Value.agg #[.int .i64 ty.t.gr,.int .i64 ty.t.ac,.int .i64 ty.t.rf,.int .i64 ty.t.tr,.int .i64 ty.t.vo,.int .i64 ty.t.no,.int .i64 ty.t.li,.int .i64 ty.t.le],.int .i64 0] = dE
 generalize Value.agg #[.int .i64 ty.t.gr,.int .i64 ty.t.ac,.int .i64 ty.t.rf,.int .i64 ty.t.tr,.int .i64 ty.t.vo,.int .i64 ty.t.no,.int .i64 ty.t.li,.int .i64 ty.t.le] = dF
 clear x0 x3 x4 x5 x6 x7 x8 x9 x10 t0 t1 t2 t3 t4 t5 t6 t7 uc hwa har
 go_loopw [9,10,11,12] (fun vv wv tv iv wr=>∃ k:Nat,k ≤ ty.g.length∧iv = .int .i64 k∧vv = .int .i64 ((ty.g.take k).foldl wgT tot0).vo∧wv = .int .i64 ((ty.g.take k).foldl wgT tot0).no∧tv = .int .i64 ((ty.g.take k).foldl wgT tot0).tr∧Below W7.heap.size W7 wr) (fun _ _ _ iv _=>ty.g.length - (intOf iv).toNat)
 case atStart=>exact ⟨0,Nat.zero_le _,rfl,rfl,rfl,rfl,Below.refl _ _⟩
 case round =>
  obtain ⟨k,hk,rfl,rfl,rfl,rfl,ou⟩:=hrel
  have xK:=hide ou
  have x0:wr.cell? ⟨w2.heap.size,0,none⟩ = some (.slice ag ty.g.length cg):=zq (bT (U HX7) ou h27.1) 0 rfl
  clear ou
  by_cases xL:k < ty.g.length
  ·obtain ⟨es,uS⟩:∃ es,ty.g[k]? = some es:=⟨_,yI xL⟩
   have hel:=U HGM es (yP uS)
   have vF:Hid ((ty.g.take (k + 1)).foldl wgT tot0 = wgT ((ty.g.take k).foldl wgT tot0) es):=by
    show _ = _
    rw [List.take_add_one,uS,List.foldl_append]; rfl
   have uy:(k:Int) < ty.g.length:=by omega
   obtain ⟨gb,go,ga,gc,rfl,hgb,g0,pQ⟩:∃ gb go ga gc,ag = some ⟨gb,go,none⟩∧gb < W7.heap.size∧W7.cell? ⟨gb,go + k,none⟩ = some (.slice ga es.length gc)∧RdR Ev.vs 14 W7 (.slice ga es.length gc) es:=by
    obtain ⟨a1,c1,e1,-,Q⟩:=U pu
    simp only [Value.slice.injEq,true_and] at e1
    obtain ⟨b,off,N,kH,h3⟩:=Q (by intro h; rw [h] at uS; simp at uS)
    obtain ⟨g,h4,h5⟩:=h3 k es uS
    obtain ⟨ga,gc,rfl,-⟩:=id h5
    exact ⟨b,off,ga,gc,e1.1.trans N,kH,h4,h5⟩
   have HG0:=hide g0
   have vJ:=hide pQ
   clear g0 pQ uS
   generalize (ty.g.take k).foldl wgT tot0 = T0 at vF ⊢
   go_wp2_with fail
   go_loopw [9,10,11,13] (fun vv wv tv jv wq=>∃ j:Nat,j ≤ es.length∧jv = .int .i64 j∧vv = .int .i64 (wgT T0 (es.take j)).vo∧wv = .int .i64 (wgT T0 (es.take j)).no∧tv = .int .i64 (wgT T0 (es.take j)).tr∧Below W7.heap.size W7 wq) (fun _ _ _ jv _=>es.length - (intOf jv).toNat)
   case atStart=>exact ⟨0,Nat.zero_le _,rfl,rfl,rfl,rfl,U xK⟩
   case round =>
    obtain ⟨j,R,rfl,rfl,rfl,rfl,ou⟩:=hrel
    clear xK x0
    have xK:=hide ou
    have x0:wr.cell? ⟨w2.heap.size,0,none⟩ = some (.slice (some ⟨gb,go,none⟩) ty.g.length cg):=zq (bT (U HX7) ou h27.1) 0 rfl
    have g0:wr.cell? ⟨gb,go + k,none⟩ = some (.slice ga es.length gc):=(ou.cell (p:=⟨gb,go + k,none⟩) hgb).trans (U HG0)
    clear ou
    by_cases hjl:j < es.length
    ·obtain ⟨x,hx⟩:∃ x,es[j]? = some x:=⟨_,yI hjl⟩
     have hjl':(j:Int) < es.length:=by omega
     obtain ⟨eb,eo,rfl,hxr⟩:∃ eb eo,ga = some ⟨eb,eo,none⟩∧wr.rangeAt eb (eo + j * 14) x.vs:=by
      obtain ⟨a1,c1,e1,-,Q⟩:=U vJ
      simp only [Value.slice.injEq,true_and] at e1
      obtain ⟨b,off,N,kH,h3⟩:=Q (by intro h; rw [h] at hx; simp at hx)
      exact ⟨b,off,e1.1.trans N,zb (h3 j x hx) (U xK) kH⟩
     have HWS:=hide (wg_step T0 es hx)
     generalize hT2:wgT T0 (es.take (j + 1)) = T2 at HWS
     have uL:=hide hT2
     clear hT2
     generalize hT1:wgT T0 (es.take j) = T1 at HWS ⊢
     clear hT1 hx
     have hsf:=sfl
     obtain ⟨kd,⟨mk,ms,mt,ml,mq,mi,mp,mg⟩,id,ot,L,pr,rs⟩:=x
     obtain ⟨g0',g1',g2',g3',g4',g5',g6',g7',g8',g9',g10',g11',g12',g13'⟩:=cw hxr
     simp only at g0' g1' g2' g3' g4' g5' g6' g7' g8' g9' g10' g11' g12' g13'
     clear hxr
     have qm:Hid (Below W7.heap.size W7 (wr.alloc (Obj.cells #[.int .i64 kd,.int .i64 mk,.int .i64 ms,.int .i64 mt,.int .i64 ml,.int .i64 mq,.int .i64 mi,.float .f64 mp,.string mg,.int .i64 id,.int .i64 ot,.int .i64 L,.int .i64 pr,.int .i64 rs] 46))):=(U xK).alloc (U xK).size _
     have HXA:=hide (bD wr [.int .i64 kd,.int .i64 mk,.int .i64 ms,.int .i64 mt,.int .i64 ml,.int .i64 mq,.int .i64 mi,.float .f64 mp,.string mg,.int .i64 id,.int .i64 ot,.int .i64 L,.int .i64 pr,.int .i64 rs] 46)
     have b0:=zq (U HXA) 0 rfl
     have b11:=zq (U HXA) 11 rfl
     have qe:=zq (U HXA) 12 rfl
     by_cases hk3:kd = 3
     ·subst hk3
      have HW3:Hid (T2.vo = wrap64 (T1.vo + L)∧T2.no = wrap64 (T1.no + wrap64 (L * pr))∧T2.tr = wrap64 (T1.tr + 1)):=by
       rw [U HWS]; exact ⟨rfl,rfl,rfl⟩
      clear HWS
      go_wp2_with fail
      go_roundw
      case rel=>exact ⟨j + 1,by omega,by go_num,by rw [U uL,(U HW3).1],by rw [U uL,(U HW3).2.1],by rw [U uL,(U HW3).2.2],U qm⟩
      case measure=>simp [intOf]; omega
     ·have um:(kd == 3) = false:=by simpa using hk3
      have HW3:Hid (T2.vo = T1.vo∧T2.no = T1.no∧T2.tr = T1.tr):=by
       rw [U HWS]; exact cnt_not3 hk3
      clear HWS
      go_wp2_with fail
      go_roundw
      case rel=>exact ⟨j + 1,by omega,by go_num,by rw [U uL,(U HW3).1],by rw [U uL,(U HW3).2.1],by rw [U uL,(U HW3).2.2],U qm⟩
      case measure=>simp [intOf]; omega
    ·obtain rfl:j = es.length:=by omega
     have hjl':¬ ((es.length:Int) < es.length):=by omega
     rw [xa (Nat.le_refl _),← U vF]
     clear vF
     go_wp2_with fail
     go_roundw
     case rel=>exact ⟨k + 1,by omega,by go_num,rfl,rfl,rfl,U xK⟩
     case measure=>simp [intOf]; omega
  ·obtain rfl:k = ty.g.length:=by omega
   have uy:¬ ((ty.g.length:Int) < ty.g.length):=by omega
   rw [xa (Nat.le_refl _),(U jf).vo,(U jf).no,(U jf).tr]
   have x2:wr.cell? ⟨w2.heap.size,2,none⟩ = some (.slice aq ty.l.length cq):=zq (bT (U HX7) (U xK) h27.1) 2 rfl
   have hT:=bT (U az) (U xK) h27.2
   have t3:=zq hT 3 rfl
   have t4:=zq hT 4 rfl
   have t5:=zq hT 5 rfl
   have t6:=zq hT 6 rfl
   rw [(U jf).li] at t6
   clear hT
   go_wp2_with fail
   go_ret
   exact ⟨rfl,(U jK).trans ((U xK).mono (U jK).size)⟩
set_option maxRecDepth 100000 in
set_option maxHeartbeats 800000 in
theorem lawTotals (a0:Option Addr) (len0 cap0:Nat) (z0:List Int) (w:World)
  (w0:(a0 = none∧len0 = 0∧cap0 = 0∧z0 = []) ∨ ∃ x,a0 = some x∧len0 ≤ cap0∧cap0 ≤ maxLen∧z0.length = cap0∧(∀ i,i < z0.length→w.cell? (x.add i) = some (.int .u8 (z0.getD i 0)))∧∀ n ∈ z0,(Lit.int .u8 n).wf = true) :
  Calls Tryz.prog 7 #[.slice a0 len0 cap0] w fun e w'=>e = .returned (.bool true)∧Below w.heap.size w w':=by
 by_cases h0:1048576 < len0
 ·have h0':(1048576:Int) < len0:=by omega
  clear w0
  go_enter Tryz.func7,Tryz.ntmps7
  go_wp2_with fail
  go_ret
  exact ⟨rfl,Below.refl _ _⟩
 obtain ⟨e0,r0,b0⟩:=rd_of_row w0 (by omega)
 exact totLaw _ _ w r0 b0 (by omega)
end Go.Proofs.YtbakanofkghmiaaGreat
