/-
  A script run, by the model: proved by walking the function.
-/
import Derived.Test.YtbakanofkghmiaaGreatUj45
set_option linter.unusedVariables false
set_option maxHeartbeats 6400000
set_option maxRecDepth 100000
namespace Go.Proofs.YtbakanofkghmiaaGreat
open Go.RowKit
theorem lg_tot {w W:World} {gv:Value} {gs:List Value} {vq:Value} {n:Int} {l:List Od} {g:List (List Ev)} {t:Tot} (t':Tot) (h:LG w W gv gs vq ⟨n,l,g,t⟩):LG w W gv gs vq ⟨n,l,g,t'⟩:=⟨h.r,h.t,h.o,h.bx,h.g,h.gl,h.ge,h.q,h.b,h.z⟩
theorem run_few (cs:List Cm) (h:cs.length ≤ 200):∀ k,k ≤ cs.length→∀ es ∈ (runS (cs.take k)).g,es.length ≤ 100:=by
 intro k
 induction k with
 | zero=>intro _ es vQ; simp [runS] at vQ
 | succ k ih =>
  intro hk es vQ
  obtain ⟨c,hc⟩:∃ c,cs[k]? = some c:=⟨_,yF (by omega)⟩
  have hi:=(run_take cs h k (by omega)).1
  have ih:=ih (by omega)
  rw [cK cs hc] at vQ
  generalize runS (cs.take k) = s at hi ih vQ
  rcases List.mem_append.1 (show es ∈ s.g ++ [stE s.n s.l c] from vQ) with G | G
  ·exact ih es G
  ·rw [List.mem_singleton.1 G]; exact stE_len hi.good
theorem l04Run_any (v:Value) (cs:List Cm) (w:World) (hr:RdR Cm.vs 8 w v cs) (oK:∀ c ∈ cs,c.g.size ≤ maxLen) (jx:cs.length ≤ 200) :
  Calls Tryz.prog 34 #[v] w fun e w'=>∃ gv vq,e = yl (.agg #[gv,H (rsF cs).n,vq,H (rsF cs).t.gr,H (rsF cs).t.ac,H (rsF cs).t.rf,H (rsF cs).t.tr,H (rsF cs).t.vo,H (rsF cs).t.no,H (rsF cs).t.li,H (rsF cs).t.le])∧GRs w' w.heap.size gv (rsF cs).g∧ORow w' w.heap.size vq (rsF cs).l∧ym w w':=by
 have qw:=Y oK
 obtain ⟨a,A,rfl,xC,hc⟩:=hr
 have xo:∀ (k:Nat) (c:Cm),cs[k]? = some c→∃ b off,a = some (J b off)∧b < w.heap.size∧w.rangeAt b (off + k * 8) c.vs:=by
  intro k c hk
  obtain ⟨b,off,G,D,h3⟩:=hc (by intro h; rw [h] at hk; simp at hk)
  exact ⟨b,off,G,D,h3 k c hk⟩
 have HC:=Y xo
 clear xo hc oK
 have hsf:=sfl
 have HIV:=Y (run_take cs jx)
 have HF:Hid (rsF cs = { runS cs with t:=totM (runS cs).g (runS cs).l }):=Y (by rw [rsF,if_pos jx,tot_eq cs jx])
 generalize rsF cs = qt at HF ⊢
 obtain ⟨i0,uE,uF,uK,uV⟩:=info_parts infoEvS
 have hbX:=eB w (N #[.slice none 0 0,H 0,.slice none 0 0,H 0,H 0,H 0,H 0,H 0,H 0,H 0,H 0] 32)
 have HX:Hid ((w.alloc (N #[.slice none 0 0,H 0,.slice none 0 0,H 0,H 0,H 0,H 0,H 0,H 0,H 0,H 0] 32)).heap.size = w.heap.size + 1∧World.there (w.alloc (N #[.slice none 0 0,H 0,.slice none 0 0,H 0,H 0,H 0,H 0,H 0,H 0,H 0,H 0] 32)) w.heap.size 0 11∧ym w (w.alloc (N #[.slice none 0 0,H 0,.slice none 0 0,H 0,H 0,H 0,H 0,H 0,H 0,H 0,H 0] 32))):=⟨zf _ _,zt w [.slice none 0 0,H 0,.slice none 0 0,H 0,H 0,H 0,H 0,H 0,H 0,H 0,H 0] 32,hbX⟩
 clear hbX
 go_enter Tryz.func34,Tryz.ntmps34
 refine eF fun hj xq=>?_
 go_wp2_with fail
 refine U xq _ _ ?_
 clear xq
 generalize (w.alloc (N #[.slice none 0 0,H 0,.slice none 0 0,H 0,H 0,H 0,H 0,H 0,H 0,H 0,H 0] 32)) = xm at HX ⊢
 have hXs:=(U HX).1
 have HL:Hid (LG w (xm.alloc (N #[.slice none 0 0,H 1,.slice none 0 0,H 0,H 0,H 0,H 0,H 0,H 0,H 0,H 0] 32)) (.slice none 0 0) [] (.slice none 0 0) (runS (cs.take 0))):=by
  have b3:=eB xm (N #[.slice none 0 0,H 1,.slice none 0 0,H 0,H 0,H 0,H 0,H 0,H 0,H 0,H 0] 32)
  have r3:=zg xm [.slice none 0 0,H 1,.slice none 0 0,H 0,H 0,H 0,H 0,H 0,H 0,H 0,H 0] 32
  have t3:=zt xm [.slice none 0 0,H 1,.slice none 0 0,H 0,H 0,H 0,H 0,H 0,H 0,H 0,H 0] 32
  have k3:=heap_alloc_new xm (N #[.slice none 0 0,H 1,.slice none 0 0,H 0,H 0,H 0,H 0,H 0,H 0,H 0,H 0] 32)
  rw [hXs] at r3 t3 k3
  exact ⟨r3,t3,ze (U HX).2.1 b3 (by omega),⟨_,k3⟩,World.ownsRow_nil _ _ _ _,rfl,fun i g es hg=>by simp at hg,World.ownsRow_nil _ _ _ _,(U HX).2.2.trans (b3.mono (by omega)),by rw [zf]; omega⟩
 refine eF fun hj xq=>?_
 go_wp2_with fail
 refine U xq _ _ ?_
 clear xq
 generalize (xm.alloc (N #[.slice none 0 0,H 1,.slice none 0 0,H 0,H 0,H 0,H 0,H 0,H 0,H 0,H 0] 32)) = yb at HL ⊢
 clear hXs HX
 refine eF fun hj xq=>?_
 go_wp2_with fail
 go_loopw [4] (fun iv wr=>∃ (k:Nat),k ≤ cs.length∧iv = H k∧Hid (∃ gv gs vq,LG w wr gv gs vq (runS (cs.take k)))) (fun iv _=>cs.length - (intOf iv).toNat)
 case atStart=>exact ⟨0,Nat.zero_le _,rfl,_,_,_,U HL⟩
 case round =>
  obtain ⟨k,hk,rfl,ur⟩:=hrel
  obtain ⟨gv,gs,vq,hlg⟩:=U ur
  have HG:=Y hlg
  clear ur hlg
  by_cases xI:k < cs.length
  ·obtain ⟨c,uJ⟩:∃ c,cs[k]? = some c:=⟨_,yF xI⟩
   obtain ⟨b,off,rfl,O,X⟩:=U HC k c uJ
   have qE:Hid (runS (cs.take (k + 1)) = rstep (runS (cs.take k)) c):=cK cs uJ
   have uu:(k:Int) < cs.length:=by omega
   obtain ⟨oU,hi2,hi3,hi4⟩:=U HIV k hk
   have htge:=U qw c (yM uJ)
   have HCM:=Y (zb X (U HG).b O)
   have hbw:b < wr.heap.size:=yH O (U HG).b.size
   generalize runS (cs.take k) = s at qE oU hi2 hi3 hi4 HG
   obtain ⟨n,l,gl,t⟩:=s
   simp only [rstep] at qE
   simp only at oU hi2 hi3 hi4
   have kS:=oU.good.len
   obtain ⟨aq0,cq0,hv⟩:=zL (U HG).q
   simp only at hv
   subst hv
   have HGS:Hid (gs.length = k):=(U HG).gl.trans hi4
   clear hi4
   have oa:=Y (U HG).g
   obtain ⟨ga,gc,hgv⟩:=zL (U oa)
   subst hgv
   have HRO:Hid (RdR Od.vs 6 wr (.slice aq0 l.length cq0) l):=zR (U HG).q (by omega)
   have uI:=Y (fun (V:World) hV=>l04Step_any n (.slice aq0 l.length cq0) l c V hV (oRow_sl (U HG).q) oU.good oU.side (by omega) (by omega) htge)
   have HLN:=Y (stE_len (c:=c) (next:=n) oU.good)
   have HLL:=Y (stL_len (c:=c) (next:=n) oU.good)
   generalize stN n l c = eD at qE uI
   generalize stL n l c = tg at qE uI HLL
   generalize stE n l c = hR at qE uI HLN
   unfold cmV at uI
   have qV:=(U HG).z
   clear uJ X oU htge
   go_wp2_with fail
   refine zi (RG wr (fun f=>{ tmps:=#[.slice (some (J b off)) cs.length A,M,I w.heap.size 0,I (w.heap.size + 1) 0,H k,f 10,f 12,.agg #[H 1,.slice none 0 0],.agg #[.slice none 0 0,H 1,.slice none 0 0,H 0,H 0,H 0,H 0,H 0,H 0,H 0,H 0],H k,.slice (some (J b off)) cs.length A,H cs.length,.bool true,u13,u14,f 7,f 0,f 1,f 2,f 3,f 4,f 5,f 6,f 8,f 9,u25,u26,u27,u28,u29,u30,u31,u32,M,M,M,M,M,M,M],defers:=[] }) 11 (DP [I (w.heap.size + 1) 1,.agg #[H n,.slice aq0 l.length cq0],.slice (some (J b off)) cs.length A,H k,I b (off + k * 8),.agg (yv c.k c.s c.t c.l c.q c.i c.p c.g).toArray] [(6,2),(7,2),(8,3),(9,4),(10,5),(11,9),(12,4)] wr.heap.size n eD l tg hR)) (by kernel_rfl) ?_ ?_ ?_
   ·exact ⟨fun j=>([u16,u17,u18,u19,u20,u21,u22,u15,u23,u24,u5,M,u6]:List Value)[j]?.getD M,rfl,⟨rfl,rfl,rfl,Nat.le_refl _,fun _ _=>rfl⟩,fun j K=>by rw [yG] at K; split at K <;> simp at K⟩
   rotate_left
   ·rintro x xj V i op ⟨f,rfl,xh,hD⟩ X hx Z xu Q
    have xr:=Y xh
    have HD:=Y hD
    match i,Z with
    | 0,Z =>
     obtain rfl:=ya Z
     clear Q hD xh X
     rw [if_pos (by rfl)];unfold Oper.wp;go_simp
     exact ⟨upd f 0 (I (w.heap.size + 1) 1),by simp [upd],zd (U xr) (U HD) (by decide) (dp_mkv rfl rfl)⟩
    | 1,Z =>
     obtain rfl:=ya Z
     have g0:f 0 = I (w.heap.size + 1) 1:=dp_val (hD 0 (yd Q 0 rfl)) rfl rfl
     have y1:=zb (U HG).r xh (by omega) 1 _ rfl
     have y2:=zb (U HG).r xh (by omega) 2 _ rfl
     simp only [Nat.zero_add] at y1 y2
     clear Q hD xh X
     rw [if_pos (by rfl)];unfold Oper.wp;go_simp
     exact ⟨upd f 1 (.agg #[H n,.slice aq0 l.length cq0]),by simp [upd,g0],zd (U xr) (U HD) (by decide) (dp_mkv rfl rfl)⟩
    | 2,Z =>
     obtain rfl:=ya Z
     clear Q hD xh X
     rw [if_pos (by rfl)];unfold Oper.wp;go_simp
     exact ⟨upd f 2 (.slice (some (J b off)) cs.length A),by simp [upd],zd (U xr) (U HD) (by decide) (dp_mkv rfl rfl)⟩
    | 3,Z =>
     obtain rfl:=ya Z
     clear Q hD xh X
     rw [if_pos (by rfl)];unfold Oper.wp;go_simp
     exact ⟨upd f 3 (H k),by simp [upd],zd (U xr) (U HD) (by decide) (dp_mkv rfl rfl)⟩
    | 4,Z =>
     obtain rfl:=ya Z
     have g2:f 2 = .slice (some (J b off)) cs.length A:=dp_val (hD 2 (yd Q 2 rfl)) rfl rfl
     have g3:f 3 = H k:=dp_val (hD 3 (yd Q 3 rfl)) rfl rfl
     clear Q hD xh X
     rw [if_pos (by rfl)];unfold Oper.wp;go_simp
     exact ⟨upd f 4 (I b (off + k * 8)),by simp [upd,g2,g3],zd (U xr) (U HD) (by decide) (dp_mkv rfl rfl)⟩
    | 5,Z =>
     obtain rfl:=ya Z
     have g4:f 4 = I b (off + k * 8):=dp_val (hD 4 (yd Q 4 rfl)) rfl rfl
     obtain ⟨q0,q1,q2,q3,q4,q5,q6,q7⟩:=cm_cells (zb (U HCM) xh hbw)
     clear Q hD xh X
     rw [if_pos (by rfl)];unfold Oper.wp;go_simp
     exact ⟨upd f 5 (.agg (yv c.k c.s c.t c.l c.q c.i c.p c.g).toArray),by simp [upd,g4],zd (U xr) (U HD) (by decide) (dp_mkv rfl rfl)⟩
    | 6,Z =>
     obtain rfl:=ya Z
     have g1:f 1 = .agg #[H n,.slice aq0 l.length cq0]:=dp_val (hD 1 (yd Q 1 rfl)) rfl rfl
     have g5:f 5 = .agg (yv c.k c.s c.t c.l c.q c.i c.p c.g).toArray:=dp_val (hD 5 (yd Q 5 rfl)) rfl rfl
     have hS:=xh.size
     have af:=Y (zh (U HRO) xh hb)
     clear Q hD xh X
     rw [if_pos (by rfl)];unfold Oper.wp;go_simp
     refine (U uI V (U af)).mono ?_
     rintro e w4 ⟨vq,vg,rfl,kr,he4,xy⟩
     obtain ⟨aq,cq,rfl⟩:=zL kr
     obtain ⟨ag,cg,rfl⟩:=zL he4
     exact ⟨upd f 6 (.tuple #[.agg #[H eD,.slice aq tg.length cq],.slice ag hR.length cg]),by simp [upd,g1,g5],cx dp_grow (U xr) (U HD) xy (by decide) (dp_mk2 rfl ⟨aq,cq,ag,cg,rfl,zE kr hS,zE he4 hS⟩)⟩
    | 7,Z =>
     obtain rfl:=ya Z
     obtain ⟨aq,cq,ag,cg,g,D,h3⟩:=dp_2 (hD 6 (yd Q 6 rfl)) rfl
     have H2:=Y D
     have H3:=Y h3
     clear D h3
     clear Q hD xh X
     rw [if_pos (by rfl)];unfold Oper.wp;go_simp
     exact ⟨upd f 7 (.tuple #[.agg #[H eD,.slice aq tg.length cq],.slice ag hR.length cg]),by simp [upd,g],zd (U xr) (U HD) (by decide) (dp_mk2 rfl ⟨aq,cq,ag,cg,rfl,U H2,U H3⟩)⟩
    | 8,Z =>
     obtain rfl:=ya Z
     obtain ⟨aq,cq,ag,cg,g,D,h3⟩:=dp_2 (hD 7 (yd Q 7 rfl)) rfl
     have H2:=Y D
     have H3:=Y h3
     clear D h3
     clear Q hD xh X
     rw [if_pos (by rfl)];unfold Oper.wp;go_simp
     exact ⟨upd f 8 (.agg #[H eD,.slice aq tg.length cq]),by simp [upd,g],zd (U xr) (U HD) (by decide) (dp_mk3 rfl ⟨aq,cq,rfl,U H2⟩)⟩
    | 9,Z =>
     obtain rfl:=ya Z
     obtain ⟨aq,cq,ag,cg,g,D,h3⟩:=dp_2 (hD 7 (yd Q 7 rfl)) rfl
     have H2:=Y D
     have H3:=Y h3
     clear D h3
     clear Q hD xh X
     rw [if_pos (by rfl)];unfold Oper.wp;go_simp
     exact ⟨upd f 9 (.slice ag hR.length cg),by simp [upd,g],zd (U xr) (U HD) (by decide) (dp_mk4 rfl ⟨ag,cg,rfl,U H3⟩)⟩
    | 10,Z =>
     obtain rfl:=ya Z
     have hp:¬ x[11]? = some true:=by rw [zy X 12 10 11 (by kernel_rfl) hx (by simp) xu]; simp
     have hS:=xh.size
     clear Q hD xh X
     rw [if_pos (by rfl)];unfold Oper.wp;go_simp
     exact ⟨upd f 10 (I V.heap.size 0),by simp [upd],cx dp_grow (U xr) (U HD) (eB _ _) (by decide) (dp_mk5 rfl hp hS)⟩
    | 11,Z =>
     obtain rfl:=ya Z
     obtain ⟨aq,cq,g6,ho6⟩:=dp_3 (hD 8 (yd Q 8 rfl)) rfl
     obtain ⟨b0,g9,ar,hlt0,xE,vp,-⟩:=dp_5 (hD 10 (yd Q 10 rfl)) rfl
     have HSX:Hid (∀ j,j ≠ 11→x[j]? = some true→DP [I (w.heap.size + 1) 1,.agg #[H n,.slice aq0 l.length cq0],.slice (some (J b off)) cs.length A,H k,I b (off + k * 8),.agg (yv c.k c.s c.t c.l c.q c.i c.p c.g).toArray] [(6,2),(7,2),(8,3),(9,4),(10,5),(11,9),(12,4)] wr.heap.size n eD l tg hR False V j (f j)→DP [I (w.heap.size + 1) 1,.agg #[H n,.slice aq0 l.length cq0],.slice (some (J b off)) cs.length A,H k,I b (off + k * 8),.agg (yv c.k c.s c.t c.l c.q c.i c.p c.g).toArray] [(6,2),(7,2),(8,3),(9,4),(10,5),(11,9),(12,4)] wr.heap.size n eD l tg hR True (V.setCells b0 0 [H eD,.slice aq tg.length cq]) j (f j)):=fun j K hxj h=>dp_store ar xE hlt0 vp ho6 (fun hk=>by rw [look_only hk (i:=10) (by decide)]; exact g9) h
     have ud:=Y (zm b0 ar [H eD,.slice aq tg.length cq] 0 _ xh)
     obtain ⟨p0,x0,f0⟩:=zc xE (j:=0) (by omega)
     obtain ⟨p1,x1,f1⟩:=zc xE (j:=1) (by omega)
     clear Q hD xh X xE vp ho6
     rw [if_pos (by rfl)];unfold Oper.wp;go_simp
     exact ⟨f,by simp [g6,g9],rg_write2 (U ud) (U HD) xu (U HSX) (dp_mk9 rfl)⟩
    | 12,Z =>
     obtain rfl:=ya Z
     obtain ⟨ag,cg,g,h3⟩:=dp_4 (hD 9 (yd Q 9 rfl)) rfl
     have H3:=Y h3
     clear h3
     clear Q hD xh X
     rw [if_pos (by rfl)];unfold Oper.wp;go_simp
     exact ⟨upd f 12 (.slice ag hR.length cg),by simp [upd,g],zd (U xr) (U HD) (by decide) (dp_mk4 rfl ⟨ag,cg,rfl,U H3⟩)⟩
    | n + 13,Z=>simp at Z
   ·rintro x xj V ⟨f,rfl,xh,hD⟩ hx xL
    have xn:=zO xL hx (by kernel_rfl)
    obtain ⟨ag,cg,ak,hge⟩:=dp_4 (hD 12 (xn 12 (by simp))) rfl
    obtain ⟨bb,jR,ar,hltb,-,hbxb,uO⟩:=dp_5 (hD 10 (xn 10 (by simp))) rfl
    obtain ⟨aq,cq,hra,hro⟩:=uO (xn 11 (by simp))
    simp only [ak,jR]
    have jO:=Y (lg_below (U HG) xh)
    have HOV:=Y (zE hro qV)
    have vK:=Y (zE hge qV)
    have x0:V.cell? (J bb 0) = some (H eD):=hra 0 _ rfl
    have x1:V.cell? (J bb 1) = some (.slice aq tg.length cq):=hra 1 _ rfl
    obtain ⟨y1,z1,q1⟩:=zc (U jO).t (j:=1) (by omega)
    obtain ⟨y2,z2,q2⟩:=zc (U jO).t (j:=2) (by omega)
    have m0:V.cell? (J (w.heap.size + 1) 0) = some (.slice ga gs.length gc):=(U jO).r 0 _ rfl
    clear ak hge jR hltb hbxb uO hra hro hD xn xL hx xh
    generalize f 0 = v0,f 1 = v1,f 2 = v2,f 3 = v3,f 4 = v4,f 5 = v5,f 6 = v6,f 7 = v7,f 8 = v8,f 9 = v9
    rename_i KA haA
    refine haA _ _ ?_
    clear haA KA
    refine eF fun K2 qZ=>?_
    go_wp2_with fail
    refine U qZ _ _ ?_
    clear qZ x0 x1 z1 q1 z2 q2 m0
    have HLB:=Y (lg_book (U jO) eD tg (U HOV))
    have jt:=Y (zw (zw (U vK) (zl (U vK) (U jO).bx (by decide)) 1 (H eD)) (zl (U vK) (U jO).bx (by decide)) 2 (.slice aq tg.length cq))
    clear jO vK HOV
    generalize (V.setCell (J (w.heap.size + 1) 1) (H eD)).setCell (J (w.heap.size + 1) 2) (.slice aq tg.length cq) = V1 at HLB jt ⊢
    have m0:V1.cell? (J (w.heap.size + 1) 0) = some (.slice ga gs.length gc):=(U HLB).r 0 _ rfl
    refine wp_region_lit ?_
    refine wpList_step fun K3 vU=>?_
    have vB:=Y vU
    clear vU
    rw [if_pos (by rfl)];unfold Oper.wp;go_simp
    refine U vB _ _ ?_
    clear vB
    refine wpList_step fun K3 vU=>?_
    have vB:=Y vU
    clear vU
    rw [if_pos (by rfl)];unfold Oper.wp;go_simp
    refine U vB _ _ ?_
    clear vB
    refine wpList_step fun K3 vU=>?_
    have vB:=Y vU
    clear vU
    rw [if_pos (by rfl)];unfold Oper.wp;go_simp
    refine U vB _ _ ?_
    clear vB
    refine wpList_step fun K3 vU=>?_
    have vB:=Y vU
    clear vU
    rw [if_pos (by rfl)];unfold Oper.wp;go_simp
    refine U vB _ _ ?_
    clear vB
    have bA:=eB V1 (N #[.slice ag hR.length cg] 38)
    have ju:=Y (lg_below (U HLB) bA)
    have HEC:=Y (zI (U jt) bA)
    have oj:(V1.alloc (N #[.slice ag hR.length cg] 38)).cell? (J V1.heap.size 0) = some (.slice ag hR.length cg):=zg V1 [.slice ag hR.length cg] 38 0 _ rfl
    generalize V1.alloc (N #[.slice ag hR.length cg] 38) = V2 at ju HEC oj ⊢
    generalize V1.heap.size = vs at oj ⊢
    clear bA HLB jt m0
    refine wpList_step fun K3 vU=>?_
    have vB:=Y vU
    clear vU
    rw [if_pos (by rfl)]
    refine wp_append_own V2 (.tmp 28) (.tmp 30) 25 rfl (w.heap.size + 1 + 1) 38 i0 _ 1 24 Tryz.underlying25 uE uF uK uV rfl (by decide) (.slice ga gs.length gc) gs.length gs rfl (U ju).g (J vs 0) 1 1 [.slice ag hR.length cg] rfl rfl (fun j u hu=>by match j,hu with | 0,hu=>cases hu; rw [Addr.add_mid]; exact oj | j + 1,hu=>simp at hu) (by intro u hu; simp at hu; subst hu; rfl) (by have:=U HGS; unfold maxLen; omega) (by have:=U HGS; omega) (by have:=(U ju).z; omega) ?_
    intro v' w' xN uc _
    have HOW:Hid (GRow w' (w.heap.size + 1 + 1) v' (gs ++ [Value.slice ag hR.length cg])):=by show w'.ownsRow _ _ _ _ (gs ++ [Value.slice ag hR.length cg]).length _; rw [yN]; exact xN
    obtain ⟨ga',gc',hv'⟩:=zL (U HOW)
    subst hv'
    have HLD:=Y (lg_group (U ju) (U HEC) (U HOW) uc)
    obtain ⟨y0,z0,q0⟩:=zc (bw (U ju).t uc (by have:=(U ju).z; omega) (zl (U ju).g (U ju).bx (by decide))) (j:=0) (by omega)
    clear xN uc ju HEC oj
    refine U vB _ _ ?_
    clear vB
    refine wpList_step fun K3 vU=>?_
    have vB:=Y vU
    clear vU
    rw [if_pos (by rfl)];unfold Oper.wp;go_simp
    refine U vB _ _ ?_
    clear vB
    refine wpList_step fun K3 vU=>?_
    have vB:=Y vU
    clear vU
    rw [if_pos (by rfl)];unfold Oper.wp;go_simp
    refine U vB _ _ ?_
    clear vB
    have elen:(gs ++ [Value.slice ag hR.length cg]).length = gs.length + 1:=by simp
    rw [elen] at HLD
    clear elen
    generalize w'.setCell (J (w.heap.size + 1) 0) (.slice ga' (gs.length + 1) gc') = V3 at HLD ⊢
    clear z0 q0
    refine wpList_nil ?_
    go_wp2_with fail
    go_roundw
    case rel=>exact ⟨k + 1,by omega,by go_num,_,_,_,by rw [U qE]; exact lg_tot _ (U HLD)⟩
    case measure=>simp [intOf]; omega
  ·have uu:¬ (k:Int) < cs.length:=by omega
   rw [yX (by omega)] at HG
   have HFW:=Y (run_few cs jx cs.length hb)
   have HRI:=Y (run_inv cs jx)
   rw [yX hb] at HFW
   go_wp2_with fail
   refine U xq _ _ ?_
   clear xq xI uu
   generalize runS cs = s at HG HF HFW HRI
   obtain ⟨n,l,gl,t⟩:=s
   simp only at HF HFW HRI
   obtain ⟨aq,cq,hv⟩:=zL (U HG).q
   simp only at hv
   subst hv
   obtain ⟨ga,gc,hgv⟩:=zL (U HG).g
   subst hgv
   have oD:gs.length = gl.length:=(U HG).gl
   have HGD:=Y (grs_rd (U HG).g oD (U HG).ge (by have:=(U HRI).2.2.2; omega) (fun es vQ=>yL (U HFW es vQ) (by omega)))
   have HOD:Hid (RdR Od.vs 6 wr (.slice aq l.length cq) l):=zR (U HG).q (by have:=(U HRI).1.good.len; omega)
   have kI:=Y oD
   clear oD
   have HTO:=Y (l04Totals_any _ gl n _ l wr (U HGD) (U HOD))
   generalize totM gl l = T at HTO HF
   obtain ⟨uf,ue,uh,ui,uj,ug,uq,uo⟩:=T
   simp only at HTO
   have m0:wr.cell? (J (w.heap.size + 1) 0) = some (.slice ga gs.length gc):=(U HG).r 0 _ rfl
   have m1:wr.cell? (J (w.heap.size + 1) 1) = some (H n):=(U HG).r 1 _ rfl
   have m2:wr.cell? (J (w.heap.size + 1) 2) = some (.slice aq l.length cq):=(U HG).r 2 _ rfl
   refine eF fun hj xq=>?_
   go_wp2_with fail
   refine (U HTO).mono ?_
   rintro e V2 ⟨rfl,xS⟩
   clear m0 m1 m2
   have uN:=Y (lg_below (U HG) xS)
   clear xS
   have uV:=(U uN).z
   obtain ⟨y3,z3,q3⟩:=zc (U uN).t (j:=3) (by omega)
   obtain ⟨y4,z4,q4⟩:=zc (U uN).t (j:=4) (by omega)
   obtain ⟨y5,z5,q5⟩:=zc (U uN).t (j:=5) (by omega)
   obtain ⟨y6,z6,q6⟩:=zc (U uN).t (j:=6) (by omega)
   obtain ⟨y7,z7,q7⟩:=zc (U uN).t (j:=7) (by omega)
   obtain ⟨y8,z8,q8⟩:=zc (U uN).t (j:=8) (by omega)
   obtain ⟨y9,z9,q9⟩:=zc (U uN).t (j:=9) (by omega)
   obtain ⟨az,z10,q10⟩:=zc (U uN).t (j:=10) (by omega)
   go_wp2_with fail
   refine U xq _ _ ?_
   clear xq z3 q3 z4 q4 z5 q5 z6 q6 z7 q7 z8 q8 z9 q9 z10 q10
   change Code.wp _ _ _ _ (V2.setCells (w.heap.size + 1) 3 (Tot.mk uf ue uh ui uj ug uq uo).vs)
   have jG:Hid (V2.there (w.heap.size + 1) 3 8):=fun j K=>by
    have:=(U uN).t (3 + j) (by omega)
    rwa [Nat.zero_add] at this
   have kY:=Y (yV V2 (w.heap.size + 1) 3 (Tot.mk uf ue uh ui uj ug uq uo).vs (fun j K=>U jG j (by simpa [Tot.vs] using K)))
   have HC0:Hid (∀ j u,j < 3→V2.cell? (J (w.heap.size + 1) j) = some u→(V2.setCells (w.heap.size + 1) 3 (Tot.mk uf ue uh ui uj ug uq uo).vs).cell? (J (w.heap.size + 1) j) = some u):=fun j u K hu=>(World.cell?_setCells_out (w.heap.size + 1) _ 3 V2 (J (w.heap.size + 1) j) (fun _ _=>.inl K)).trans hu
   have qx:Hid (World.there (V2.setCells (w.heap.size + 1) 3 (Tot.mk uf ue uh ui uj ug uq uo).vs) w.heap.size 0 11):=dP (U uN).o (de (w.heap.size + 1) w.heap.size (by omega) _ 3 V2)
   have xr:=Y (zm (w.heap.size + 1) (by omega) (Tot.mk uf ue uh ui uj ug uq uo).vs 3 V2 (U uN).b)
   have vM:Hid (∀ {e sz m:Nat} {v:Value} {xs:List Value},V2.ownsRow (w.heap.size + 1 + 1) e sz v m xs→32 ≠ e→World.ownsRow ((V2.setCells (w.heap.size + 1) 3 (Tot.mk uf ue uh ui uj ug uq uo).vs).setCells w.heap.size 0 [.slice ga gs.length gc,H n,.slice aq l.length cq,H uf,H ue,H uh,H ui,H uj,H ug,H uq,H uo]) w.heap.size e sz v m xs):=fun {e sz m v xs} h hne'=>row_end h (zl h (U uN).bx hne') (Below.refl _ _) (by omega) (by omega) _ _ _ _
   generalize V2.setCells (w.heap.size + 1) 3 (Tot.mk uf ue uh ui uj ug uq uo).vs = V at kY HC0 qx xr vM ⊢
   have m0:=U HC0 0 _ (by omega) ((U uN).r 0 _ rfl)
   have m1:=U HC0 1 _ (by omega) ((U uN).r 1 _ rfl)
   have m2:=U HC0 2 _ (by omega) ((U uN).r 2 _ rfl)
   simp only at m1
   have m3:V.cell? (J (w.heap.size + 1) 3) = some (H uf):=U kY 0 _ rfl
   have m4:V.cell? (J (w.heap.size + 1) 4) = some (H ue):=U kY 1 _ rfl
   have m5:V.cell? (J (w.heap.size + 1) 5) = some (H uh):=U kY 2 _ rfl
   have m6:V.cell? (J (w.heap.size + 1) 6) = some (H ui):=U kY 3 _ rfl
   have m7:V.cell? (J (w.heap.size + 1) 7) = some (H uj):=U kY 4 _ rfl
   have m8:V.cell? (J (w.heap.size + 1) 8) = some (H ug):=U kY 5 _ rfl
   have m9:V.cell? (J (w.heap.size + 1) 9) = some (H uq):=U kY 6 _ rfl
   have m10:V.cell? (J (w.heap.size + 1) 10) = some (H uo):=U kY 7 _ rfl
   obtain ⟨y0,z0,q0⟩:=zc (U qx) (j:=0) (by omega)
   obtain ⟨y1,z1,q1⟩:=zc (U qx) (j:=1) (by omega)
   obtain ⟨y2,z2,q2⟩:=zc (U qx) (j:=2) (by omega)
   obtain ⟨y3,z3,q3⟩:=zc (U qx) (j:=3) (by omega)
   obtain ⟨y4,z4,q4⟩:=zc (U qx) (j:=4) (by omega)
   obtain ⟨y5,z5,q5⟩:=zc (U qx) (j:=5) (by omega)
   obtain ⟨y6,z6,q6⟩:=zc (U qx) (j:=6) (by omega)
   obtain ⟨y7,z7,q7⟩:=zc (U qx) (j:=7) (by omega)
   obtain ⟨y8,z8,q8⟩:=zc (U qx) (j:=8) (by omega)
   obtain ⟨y9,z9,q9⟩:=zc (U qx) (j:=9) (by omega)
   obtain ⟨az,z10,q10⟩:=zc (U qx) (j:=10) (by omega)
   have xO:=Y (yV V w.heap.size 0 [.slice ga gs.length gc,H n,.slice aq l.length cq,H uf,H ue,H uh,H ui,H uj,H ug,H uq,H uo] (fun j K=>U qx j K))
   have vG:=Y (zm w.heap.size hb [.slice ga gs.length gc,H n,.slice aq l.length cq,H uf,H ue,H uh,H ui,H uj,H ug,H uq,H uo] 0 V (U xr))
   have HGG:Hid (GRs (V.setCells w.heap.size 0 [.slice ga gs.length gc,H n,.slice aq l.length cq,H uf,H ue,H uh,H ui,H uj,H ug,H uq,H uo]) w.heap.size (.slice ga gs.length gc) gl):=⟨gs,U vM (U uN).g (by decide),U kI,fun i g es hg vQ=>U vM ((U uN).ge i g es hg vQ) (by decide)⟩
   have HO:Hid (ORow (V.setCells w.heap.size 0 [.slice ga gs.length gc,H n,.slice aq l.length cq,H uf,H ue,H uh,H ui,H uj,H ug,H uq,H uo]) w.heap.size (.slice aq l.length cq) l):=U vM (U uN).q (by decide)
   clear vM
   go_wp2_with fail
   change bodyPost _ _ _ _ _ (V.setCells w.heap.size 0 [.slice ga gs.length gc,H n,.slice aq l.length cq,H uf,H ue,H uh,H ui,H uj,H ug,H uq,H uo])
   generalize V.setCells w.heap.size 0 [.slice ga gs.length gc,H n,.slice aq l.length cq,H uf,H ue,H uh,H ui,H uj,H ug,H uq,H uo] = WE at xO vG HGG HO ⊢
   obtain rfl:=U HF
   have d0:WE.cell? (J w.heap.size 0) = some (.slice ga gs.length gc):=U xO 0 _ rfl
   have d1:WE.cell? (J w.heap.size 1) = some (H n):=U xO 1 _ rfl
   have d2:WE.cell? (J w.heap.size 2) = some (.slice aq l.length cq):=U xO 2 _ rfl
   have d3:WE.cell? (J w.heap.size 3) = some (H uf):=U xO 3 _ rfl
   have d4:WE.cell? (J w.heap.size 4) = some (H ue):=U xO 4 _ rfl
   have d5:WE.cell? (J w.heap.size 5) = some (H uh):=U xO 5 _ rfl
   have d6:WE.cell? (J w.heap.size 6) = some (H ui):=U xO 6 _ rfl
   have d7:WE.cell? (J w.heap.size 7) = some (H uj):=U xO 7 _ rfl
   have d8:WE.cell? (J w.heap.size 8) = some (H ug):=U xO 8 _ rfl
   have d9:WE.cell? (J w.heap.size 9) = some (H uq):=U xO 9 _ rfl
   have d10:WE.cell? (J w.heap.size 10) = some (H uo):=U xO 10 _ rfl
   refine bodyPost_ret (by simp [results,Tryz.results34,go_sem,d0,d1,d2,d3,d4,d5,d6,d7,d8,d9,d10]; try rfl) rfl ?_
   exact ⟨_,_,rfl,U HGG,U HO,U vG⟩
theorem specRunScript_any (v:Value) (cs:List Cm) (w:World) (hr:RdR Cm.vs 8 w v cs) (oK:∀ c ∈ cs,c.g.size ≤ maxLen) :
  Calls Tryz.prog 11 #[v] w fun e w'=>∃ gv vq,e = yl (.tuple #[.agg #[gv,H (rsF cs).n,vq,H (rsF cs).t.gr,H (rsF cs).t.ac,H (rsF cs).t.rf,H (rsF cs).t.tr,H (rsF cs).t.vo,H (rsF cs).t.no,H (rsF cs).t.li,H (rsF cs).t.le],H (cntF cs.length)])∧GRs w' w.heap.size gv (rsF cs).g∧ORow w' w.heap.size vq (rsF cs).l∧ym w w':=by
 have HR:=Y hr
 have qw:=Y oK
 obtain ⟨a,A,rfl,xC,hc⟩:=hr
 clear hc oK
 have hsf:=sfl
 have HF:Hid (rsF cs = if cs.length ≤ 200 then { runS cs with t:=wbT (runS cs).t (runS cs).l } else ⟨0,[],[],tot0⟩):=rfl
 have HCF:=Y (cntF.eq_1 cs.length)
 have HRU:=Y (fun (h:cs.length ≤ 200) (W:World) hW=>l04Run_any (.slice a cs.length A) cs W hW (U qw) h)
 generalize rsF cs = qt at HF HRU ⊢
 generalize cntF cs.length = CF at HCF ⊢
 have hbX:=eB w (N #[.slice none 0 0,H 0,.slice none 0 0,H 0,H 0,H 0,H 0,H 0,H 0,H 0,H 0] 32)
 have HX:Hid ((w.alloc (N #[.slice none 0 0,H 0,.slice none 0 0,H 0,H 0,H 0,H 0,H 0,H 0,H 0,H 0] 32)).heap.size = w.heap.size + 1∧World.there (w.alloc (N #[.slice none 0 0,H 0,.slice none 0 0,H 0,H 0,H 0,H 0,H 0,H 0,H 0,H 0] 32)) w.heap.size 0 11∧ym w (w.alloc (N #[.slice none 0 0,H 0,.slice none 0 0,H 0,H 0,H 0,H 0,H 0,H 0,H 0,H 0] 32))):=⟨zf _ _,zt w [.slice none 0 0,H 0,.slice none 0 0,H 0,H 0,H 0,H 0,H 0,H 0,H 0,H 0] 32,hbX⟩
 clear hbX
 go_enter Tryz.func11,Tryz.ntmps11
 refine eF fun hj xq=>?_
 go_wp2_with fail
 refine U xq _ _ ?_
 clear xq
 generalize (w.alloc (N #[.slice none 0 0,H 0,.slice none 0 0,H 0,H 0,H 0,H 0,H 0,H 0,H 0,H 0] 32)) = xm at HX ⊢
 obtain ⟨y0,z0,q0⟩:=zc (U HX).2.1 (j:=0) (by omega)
 obtain ⟨y1,z1,q1⟩:=zc (U HX).2.1 (j:=1) (by omega)
 obtain ⟨y2,z2,q2⟩:=zc (U HX).2.1 (j:=2) (by omega)
 obtain ⟨y3,z3,q3⟩:=zc (U HX).2.1 (j:=3) (by omega)
 obtain ⟨y4,z4,q4⟩:=zc (U HX).2.1 (j:=4) (by omega)
 obtain ⟨y5,z5,q5⟩:=zc (U HX).2.1 (j:=5) (by omega)
 obtain ⟨y6,z6,q6⟩:=zc (U HX).2.1 (j:=6) (by omega)
 obtain ⟨y7,z7,q7⟩:=zc (U HX).2.1 (j:=7) (by omega)
 obtain ⟨y8,z8,q8⟩:=zc (U HX).2.1 (j:=8) (by omega)
 obtain ⟨y9,z9,q9⟩:=zc (U HX).2.1 (j:=9) (by omega)
 obtain ⟨az,z10,q10⟩:=zc (U HX).2.1 (j:=10) (by omega)
 by_cases G:4096 < cs.length
 ·have qK:Hid (qt = ⟨0,[],[],tot0⟩):=(U HF).trans (if_neg (by omega))
  have HCD:Hid (CF = 2):=(U HCF).trans (if_pos G)
  have kn:(4096:Int) < cs.length:=by omega
  have xO:=Y (yV xm w.heap.size 0 [.slice none 0 0,H 0,.slice none 0 0,H 0,H 0,H 0,H 0,H 0,H 0,H 0,H 0] (fun j K=>(U HX).2.1 j K))
  have vG:=Y (zm w.heap.size hb [.slice none 0 0,H 0,.slice none 0 0,H 0,H 0,H 0,H 0,H 0,H 0,H 0,H 0] 0 xm (U HX).2.2)
  clear HF HCF HRU
  go_wp2_with fail
  change bodyPost _ _ _ _ _ (xm.setCells w.heap.size 0 [.slice none 0 0,H 0,.slice none 0 0,H 0,H 0,H 0,H 0,H 0,H 0,H 0,H 0])
  generalize xm.setCells w.heap.size 0 [.slice none 0 0,H 0,.slice none 0 0,H 0,H 0,H 0,H 0,H 0,H 0,H 0,H 0] = WE at xO vG ⊢
  obtain rfl:=U qK
  have d0:WE.cell? (yp w 0) = some (.slice none 0 0):=U xO 0 _ rfl
  have d1:WE.cell? (yp w 1) = some (H 0):=U xO 1 _ rfl
  have d2:WE.cell? (yp w 2) = some (.slice none 0 0):=U xO 2 _ rfl
  have d3:WE.cell? (yp w 3) = some (H 0):=U xO 3 _ rfl
  have d4:WE.cell? (yp w 4) = some (H 0):=U xO 4 _ rfl
  have d5:WE.cell? (yp w 5) = some (H 0):=U xO 5 _ rfl
  have d6:WE.cell? (yp w 6) = some (H 0):=U xO 6 _ rfl
  have d7:WE.cell? (yp w 7) = some (H 0):=U xO 7 _ rfl
  have d8:WE.cell? (yp w 8) = some (H 0):=U xO 8 _ rfl
  have d9:WE.cell? (yp w 9) = some (H 0):=U xO 9 _ rfl
  have d10:WE.cell? (yp w 10) = some (H 0):=U xO 10 _ rfl
  refine bodyPost_ret (by simp [results,Tryz.results11,go_sem,d0,d1,d2,d3,d4,d5,d6,d7,d8,d9,d10]; try rfl) rfl ?_
  rw [U HCD]
  exact ⟨_,_,rfl,⟨[],World.ownsRow_nil _ _ _ _,rfl,fun i g es hg=>by simp at hg⟩,World.ownsRow_nil _ _ _ _,U vG⟩
 have kn:¬ (4096:Int) < cs.length:=by omega
 by_cases D:200 < cs.length
 ·have qK:Hid (qt = ⟨0,[],[],tot0⟩):=(U HF).trans (if_neg (by omega))
  have HCD:Hid (CF = 7):=(U HCF).trans ((if_neg G).trans (if_pos D))
  have ke:(200:Int) < cs.length:=by omega
  have xO:=Y (yV xm w.heap.size 0 [.slice none 0 0,H 0,.slice none 0 0,H 0,H 0,H 0,H 0,H 0,H 0,H 0,H 0] (fun j K=>(U HX).2.1 j K))
  have vG:=Y (zm w.heap.size hb [.slice none 0 0,H 0,.slice none 0 0,H 0,H 0,H 0,H 0,H 0,H 0,H 0,H 0] 0 xm (U HX).2.2)
  clear HF HCF HRU
  go_wp2_with fail
  change bodyPost _ _ _ _ _ (xm.setCells w.heap.size 0 [.slice none 0 0,H 0,.slice none 0 0,H 0,H 0,H 0,H 0,H 0,H 0,H 0,H 0])
  generalize xm.setCells w.heap.size 0 [.slice none 0 0,H 0,.slice none 0 0,H 0,H 0,H 0,H 0,H 0,H 0,H 0,H 0] = WE at xO vG ⊢
  obtain rfl:=U qK
  have d0:WE.cell? (yp w 0) = some (.slice none 0 0):=U xO 0 _ rfl
  have d1:WE.cell? (yp w 1) = some (H 0):=U xO 1 _ rfl
  have d2:WE.cell? (yp w 2) = some (.slice none 0 0):=U xO 2 _ rfl
  have d3:WE.cell? (yp w 3) = some (H 0):=U xO 3 _ rfl
  have d4:WE.cell? (yp w 4) = some (H 0):=U xO 4 _ rfl
  have d5:WE.cell? (yp w 5) = some (H 0):=U xO 5 _ rfl
  have d6:WE.cell? (yp w 6) = some (H 0):=U xO 6 _ rfl
  have d7:WE.cell? (yp w 7) = some (H 0):=U xO 7 _ rfl
  have d8:WE.cell? (yp w 8) = some (H 0):=U xO 8 _ rfl
  have d9:WE.cell? (yp w 9) = some (H 0):=U xO 9 _ rfl
  have d10:WE.cell? (yp w 10) = some (H 0):=U xO 10 _ rfl
  refine bodyPost_ret (by simp [results,Tryz.results11,go_sem,d0,d1,d2,d3,d4,d5,d6,d7,d8,d9,d10]; try rfl) rfl ?_
  rw [U HCD]
  exact ⟨_,_,rfl,⟨[],World.ownsRow_nil _ _ _ _,rfl,fun i g es hg=>by simp at hg⟩,World.ownsRow_nil _ _ _ _,U vG⟩
 have ke:¬ (200:Int) < cs.length:=by omega
 have HCD:Hid (CF = 0):=(U HCF).trans ((if_neg G).trans (if_neg D))
 have HRU1:=Y (U HRU (by omega) xm (zh (U HR) (U HX).2.2 hb))
 clear HRU HF HCF z0 q0 z1 q1 z2 q2 z3 q3 z4 q4 z5 q5 z6 q6 z7 q7 z8 q8 z9 q9 z10 q10
 obtain ⟨fn,fl,fg,⟨uf,ue,uh,ui,uj,ug,uq,uo⟩⟩:=qt
 simp only at HRU1 ⊢
 go_wp2_with fail
 refine (U HRU1).mono ?_
 rintro e w4 ⟨gv,vq,rfl,⟨gs,hg,oD,hge⟩,hq,xy⟩
 obtain ⟨aq,cq,hv⟩:=zL hq
 subst hv
 obtain ⟨ga,gc,hgv⟩:=zL hg
 subst hgv
 have hxs:=(U HX).1
 have ah:=Y (ze (U HX).2.1 xy (by omega))
 have xY:=Y ((U HX).2.2.trans (xy.mono (U HX).2.2.size))
 obtain ⟨y0,z0,q0⟩:=zc (U ah) (j:=0) (by omega)
 obtain ⟨y1,z1,q1⟩:=zc (U ah) (j:=1) (by omega)
 obtain ⟨y2,z2,q2⟩:=zc (U ah) (j:=2) (by omega)
 obtain ⟨y3,z3,q3⟩:=zc (U ah) (j:=3) (by omega)
 obtain ⟨y4,z4,q4⟩:=zc (U ah) (j:=4) (by omega)
 obtain ⟨y5,z5,q5⟩:=zc (U ah) (j:=5) (by omega)
 obtain ⟨y6,z6,q6⟩:=zc (U ah) (j:=6) (by omega)
 obtain ⟨y7,z7,q7⟩:=zc (U ah) (j:=7) (by omega)
 obtain ⟨y8,z8,q8⟩:=zc (U ah) (j:=8) (by omega)
 obtain ⟨y9,z9,q9⟩:=zc (U ah) (j:=9) (by omega)
 obtain ⟨az,z10,q10⟩:=zc (U ah) (j:=10) (by omega)
 have xO:=Y (yV w4 w.heap.size 0 [.slice ga gs.length gc,H fn,.slice aq fl.length cq,H uf,H ue,H uh,H ui,H uj,H ug,H uq,H uo] (fun j K=>U ah j K))
 have vG:=Y (zm w.heap.size hb [.slice ga gs.length gc,H fn,.slice aq fl.length cq,H uf,H ue,H uh,H ui,H uj,H ug,H uq,H uo] 0 w4 (U xY))
 have vM:Hid (∀ {e sz m:Nat} {v:Value} {xs:List Value},w4.ownsRow xm.heap.size e sz v m xs→World.ownsRow (w4.setCells w.heap.size 0 [.slice ga gs.length gc,H fn,.slice aq fl.length cq,H uf,H ue,H uh,H ui,H uj,H ug,H uq,H uo]) w.heap.size e sz v m xs):=fun {e sz m v xs} h=>by
  have h3:=bJ (b:=w.heap.size) (fun e'=>by have:=(h.lt _ e'.symm).1; omega) [.slice ga gs.length gc,H fn,.slice aq fl.length cq,H uf,H ue,H uh,H ui,H uj,H ug,H uq,H uo] 0 _ h
  refine ⟨h3.1,?_⟩
  rcases h3.2 with k1 | ⟨g',c',xp,k1,k2,k3⟩
  ·exact .inl k1
  ·exact .inr ⟨g',c',xp,k1,by omega,k3⟩
 have HGG:Hid (GRs (w4.setCells w.heap.size 0 [.slice ga gs.length gc,H fn,.slice aq fl.length cq,H uf,H ue,H uh,H ui,H uj,H ug,H uq,H uo]) w.heap.size (.slice ga gs.length gc) fg):=⟨gs,U vM hg,oD,fun i g es G D=>U vM (hge i g es G D)⟩
 have HO:Hid (ORow (w4.setCells w.heap.size 0 [.slice ga gs.length gc,H fn,.slice aq fl.length cq,H uf,H ue,H uh,H ui,H uj,H ug,H uq,H uo]) w.heap.size (.slice aq fl.length cq) fl):=U vM hq
 clear vM hg oD hge hq xy hxs
 go_wp2_with fail
 change bodyPost _ _ _ _ _ (w4.setCells w.heap.size 0 [.slice ga gs.length gc,H fn,.slice aq fl.length cq,H uf,H ue,H uh,H ui,H uj,H ug,H uq,H uo])
 generalize w4.setCells w.heap.size 0 [.slice ga gs.length gc,H fn,.slice aq fl.length cq,H uf,H ue,H uh,H ui,H uj,H ug,H uq,H uo] = WE at xO vG HGG HO ⊢
 have d0:WE.cell? (yp w 0) = some (.slice ga gs.length gc):=U xO 0 _ rfl
 have d1:WE.cell? (yp w 1) = some (H fn):=U xO 1 _ rfl
 have d2:WE.cell? (yp w 2) = some (.slice aq fl.length cq):=U xO 2 _ rfl
 have d3:WE.cell? (yp w 3) = some (H uf):=U xO 3 _ rfl
 have d4:WE.cell? (yp w 4) = some (H ue):=U xO 4 _ rfl
 have d5:WE.cell? (yp w 5) = some (H uh):=U xO 5 _ rfl
 have d6:WE.cell? (yp w 6) = some (H ui):=U xO 6 _ rfl
 have d7:WE.cell? (yp w 7) = some (H uj):=U xO 7 _ rfl
 have d8:WE.cell? (yp w 8) = some (H ug):=U xO 8 _ rfl
 have d9:WE.cell? (yp w 9) = some (H uq):=U xO 9 _ rfl
 have d10:WE.cell? (yp w 10) = some (H uo):=U xO 10 _ rfl
 refine bodyPost_ret (by simp [results,Tryz.results11,go_sem,d0,d1,d2,d3,d4,d5,d6,d7,d8,d9,d10]; try rfl) rfl ?_
 rw [U HCD]
 exact ⟨_,_,rfl,U HGG,U HO,U vG⟩
end Go.Proofs.YtbakanofkghmiaaGreat
