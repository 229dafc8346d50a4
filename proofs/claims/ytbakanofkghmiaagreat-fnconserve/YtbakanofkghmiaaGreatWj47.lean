/-
  A script run, by the model: proved by walking the function.
-/
import Derived.Test.YtbakanofkghmiaaGreatWj46
set_option linter.unusedVariables false
set_option maxHeartbeats 6400000
set_option maxRecDepth 100000
namespace Go.Proofs.YtbakanofkghmiaaGreat
open Go.RowKit
theorem lg_tot {w W:World} {gv:Value} {gs:List Value} {vq:Value} {n:Int} {l:List Od} {g:List (List Ev)} {t:Tot} (t':Tot) (h:LG w W gv gs vq ⟨n,l,g,t⟩):LG w W gv gs vq ⟨n,l,g,t'⟩:=⟨h.r,h.t,h.o,h.bx,h.g,h.gl,h.ge,h.q,h.b,h.z⟩
theorem run_few (cs:List Cm) (h:cs.length ≤ 200):∀ k,k ≤ cs.length→∀ es ∈ (runS (cs.take k)).g,es.length ≤ 100:=by
 intro k
 induction k with
 | zero=>intro _ es vh; simp [runS] at vh
 | succ k ih =>
  intro hk es vh
  obtain ⟨c,hc⟩:∃ c,cs[k]? = some c:=⟨_,yH (by omega)⟩
  have hi:=(run_take cs h k (by omega)).1
  have ih:=ih (by omega)
  rw [cM cs hc] at vh
  generalize runS (cs.take k) = s at hi ih vh
  rcases List.mem_append.1 (show es ∈ s.g ++ [stE s.n s.l c] from vh) with G | G
  ·exact ih es G
  ·rw [List.mem_singleton.1 G]; exact stE_len hi.good
theorem l04Run_any (v:Value) (cs:List Cm) (w:World) (hr:RdR Cm.vs 8 w v cs) (pW:∀ c ∈ cs,c.g.size ≤ maxLen) (jz:cs.length ≤ 200) :
  Calls Tryz.prog 34 #[v] w fun e w'=>∃ gv vq,e = ym (.agg #[gv,H (rsF cs).n,vq,H (rsF cs).t.gr,H (rsF cs).t.ac,H (rsF cs).t.rf,H (rsF cs).t.tr,H (rsF cs).t.vo,H (rsF cs).t.no,H (rsF cs).t.li,H (rsF cs).t.le])∧GRs w' w.heap.size gv (rsF cs).g∧ORow w' w.heap.size vq (rsF cs).l∧yn w w':=by
 have qI:=Y pW
 obtain ⟨a,A,rfl,xE,hc⟩:=hr
 have xq:∀ (k:Nat) (c:Cm),cs[k]? = some c→∃ b off,a = some (J b off)∧b < w.heap.size∧w.rangeAt b (off + k * 8) c.vs:=by
  intro k c hk
  obtain ⟨b,off,G,E,h3⟩:=hc (by intro h; rw [h] at hk; simp at hk)
  exact ⟨b,off,G,E,h3 k c hk⟩
 have HC:=Y xq
 clear xq hc pW
 have hsf:=sfl
 have HIV:=Y (run_take cs jz)
 have HF:Hid (rsF cs = { runS cs with t:=totM (runS cs).g (runS cs).l }):=Y (by rw [rsF,if_pos jz,tot_eq cs jz])
 generalize rsF cs = hb at HF ⊢
 obtain ⟨i0,uH,uF,uJ,uQ⟩:=info_parts infoEvS
 have hbX:=eD w (eF #[.slice none 0 0,H 0,.slice none 0 0,H 0,H 0,H 0,H 0,H 0,H 0,H 0,H 0] 32)
 have HX:Hid ((w.alloc (eF #[.slice none 0 0,H 0,.slice none 0 0,H 0,H 0,H 0,H 0,H 0,H 0,H 0,H 0] 32)).heap.size = w.heap.size + 1∧World.there (w.alloc (eF #[.slice none 0 0,H 0,.slice none 0 0,H 0,H 0,H 0,H 0,H 0,H 0,H 0,H 0] 32)) w.heap.size 0 11∧yn w (w.alloc (eF #[.slice none 0 0,H 0,.slice none 0 0,H 0,H 0,H 0,H 0,H 0,H 0,H 0,H 0] 32))):=⟨zh _ _,zv w [.slice none 0 0,H 0,.slice none 0 0,H 0,H 0,H 0,H 0,H 0,H 0,H 0,H 0] 32,hbX⟩
 clear hbX
 go_enter Tryz.func34,Tryz.ntmps34
 refine eH fun hj xu=>?_
 go_wp2_with fail
 refine U xu _ _ ?_
 clear xu
 generalize (w.alloc (eF #[.slice none 0 0,H 0,.slice none 0 0,H 0,H 0,H 0,H 0,H 0,H 0,H 0,H 0] 32)) = hR at HX ⊢
 have hXs:=(U HX).1
 have HL:Hid (LG w (hR.alloc (eF #[.slice none 0 0,H 1,.slice none 0 0,H 0,H 0,H 0,H 0,H 0,H 0,H 0,H 0] 32)) (.slice none 0 0) [] (.slice none 0 0) (runS (cs.take 0))):=by
  have b3:=eD hR (eF #[.slice none 0 0,H 1,.slice none 0 0,H 0,H 0,H 0,H 0,H 0,H 0,H 0,H 0] 32)
  have r3:=zi hR [.slice none 0 0,H 1,.slice none 0 0,H 0,H 0,H 0,H 0,H 0,H 0,H 0,H 0] 32
  have t3:=zv hR [.slice none 0 0,H 1,.slice none 0 0,H 0,H 0,H 0,H 0,H 0,H 0,H 0,H 0] 32
  have k3:=heap_alloc_new hR (eF #[.slice none 0 0,H 1,.slice none 0 0,H 0,H 0,H 0,H 0,H 0,H 0,H 0,H 0] 32)
  rw [hXs] at r3 t3 k3
  exact ⟨r3,t3,zg (U HX).2.1 b3 (by omega),⟨_,k3⟩,World.ownsRow_nil _ _ _ _,rfl,fun i g es hg=>by simp at hg,World.ownsRow_nil _ _ _ _,(U HX).2.2.trans (b3.mono (by omega)),by rw [zh]; omega⟩
 refine eH fun hj xu=>?_
 go_wp2_with fail
 refine U xu _ _ ?_
 clear xu
 generalize (hR.alloc (eF #[.slice none 0 0,H 1,.slice none 0 0,H 0,H 0,H 0,H 0,H 0,H 0,H 0,H 0] 32)) = yb at HL ⊢
 clear hXs HX
 refine eH fun hj xu=>?_
 go_wp2_with fail
 go_loopw [4] (fun iv wr=>∃ (k:Nat),k ≤ cs.length∧iv = H k∧Hid (∃ gv gs vq,LG w wr gv gs vq (runS (cs.take k)))) (fun iv _=>cs.length - (intOf iv).toNat)
 case atStart=>exact ⟨0,Nat.zero_le _,rfl,_,_,_,U HL⟩
 case round =>
  obtain ⟨k,hk,rfl,ub⟩:=hrel
  obtain ⟨gv,gs,vq,hlg⟩:=U ub
  have HG:=Y hlg
  clear ub hlg
  by_cases xJ:k < cs.length
  ·obtain ⟨c,uV⟩:∃ c,cs[k]? = some c:=⟨_,yH xJ⟩
   obtain ⟨b,off,rfl,F,xo⟩:=U HC k c uV
   have qb:Hid (runS (cs.take (k + 1)) = rstep (runS (cs.take k)) c):=cM cs uV
   have un:(k:Int) < cs.length:=by omega
   obtain ⟨ps,hi2,hi3,hi4⟩:=U HIV k hk
   have htge:=U qI c (yO uV)
   have HCM:=Y (zb xo (U HG).b F)
   have hbw:b < wr.heap.size:=yJ F (U HG).b.size
   generalize runS (cs.take k) = s at qb ps hi2 hi3 hi4 HG
   obtain ⟨n,l,gl,t⟩:=s
   simp only [rstep] at qb
   simp only at ps hi2 hi3 hi4
   have kX:=ps.good.len
   obtain ⟨aq0,cq0,hv⟩:=zT (U HG).q
   simp only at hv
   subst hv
   have HGS:Hid (gs.length = k):=(U HG).gl.trans hi4
   clear hi4
   have ph:=Y (U HG).g
   obtain ⟨ga,gc,hgv⟩:=zT (U ph)
   subst hgv
   have HRO:Hid (RdR Od.vs 6 wr (.slice aq0 l.length cq0) l):=zN (U HG).q (by omega)
   have uK:=Y (fun (V:World) hV=>l04Step_any n (.slice aq0 l.length cq0) l c V hV (oRow_sl (U HG).q) ps.good ps.side (by omega) (by omega) htge)
   have HLN:=Y (stE_len (c:=c) (next:=n) ps.good)
   have HLL:=Y (stL_len (c:=c) (next:=n) ps.good)
   generalize stN n l c = N at qb uK
   generalize stL n l c = tg at qb uK HLL
   generalize stE n l c = h2 at qb uK HLN
   unfold cmV at uK
   have ja:=(U HG).z
   clear uV xo ps htge
   go_wp2_with fail
   refine zj (RG wr (fun f=>{ tmps:=#[.slice (some (J b off)) cs.length A,M,I w.heap.size 0,I (w.heap.size + 1) 0,H k,f 10,f 12,.agg #[H 1,.slice none 0 0],.agg #[.slice none 0 0,H 1,.slice none 0 0,H 0,H 0,H 0,H 0,H 0,H 0,H 0,H 0],H k,.slice (some (J b off)) cs.length A,H cs.length,.bool true,u13,u14,f 7,f 0,f 1,f 2,f 3,f 4,f 5,f 6,f 8,f 9,u25,u26,u27,u28,u29,u30,u31,u32,M,M,M,M,M,M,M],defers:=[] }) 11 (DP [I (w.heap.size + 1) 1,.agg #[H n,.slice aq0 l.length cq0],.slice (some (J b off)) cs.length A,H k,I b (off + k * 8),.agg (yw c.k c.s c.t c.l c.q c.i c.p c.g).toArray] [(6,2),(7,2),(8,3),(9,4),(10,5),(11,9),(12,4)] wr.heap.size n N l tg h2)) (by kernel_rfl) ?_ ?_ ?_
   ·exact ⟨fun j=>([u16,u17,u18,u19,u20,u21,u22,u15,u23,u24,u5,M,u6]:List Value)[j]?.getD M,rfl,⟨rfl,rfl,rfl,Nat.le_refl _,fun _ _=>rfl⟩,fun j K=>by rw [yI] at K; split at K <;> simp at K⟩
   rotate_left
   ·rintro x xm V i op ⟨f,rfl,xk,hD⟩ xo hx Z xy Q
    have xv:=Y xk
    have HD:=Y hD
    match i,Z with
    | 0,Z =>
     obtain rfl:=ya Z
     clear Q hD xk xo
     rw [if_pos (by rfl)];unfold Oper.wp;go_simp
     exact ⟨upd f 0 (I (w.heap.size + 1) 1),by simp [upd],zf (U xv) (U HD) (by decide) (dp_mkv rfl rfl)⟩
    | 1,Z =>
     obtain rfl:=ya Z
     have g0:f 0 = I (w.heap.size + 1) 1:=dp_val (hD 0 (ye Q 0 rfl)) rfl rfl
     have y1:=zb (U HG).r xk (by omega) 1 _ rfl
     have y2:=zb (U HG).r xk (by omega) 2 _ rfl
     simp only [Nat.zero_add] at y1 y2
     clear Q hD xk xo
     rw [if_pos (by rfl)];unfold Oper.wp;go_simp
     exact ⟨upd f 1 (.agg #[H n,.slice aq0 l.length cq0]),by simp [upd,g0],zf (U xv) (U HD) (by decide) (dp_mkv rfl rfl)⟩
    | 2,Z =>
     obtain rfl:=ya Z
     clear Q hD xk xo
     rw [if_pos (by rfl)];unfold Oper.wp;go_simp
     exact ⟨upd f 2 (.slice (some (J b off)) cs.length A),by simp [upd],zf (U xv) (U HD) (by decide) (dp_mkv rfl rfl)⟩
    | 3,Z =>
     obtain rfl:=ya Z
     clear Q hD xk xo
     rw [if_pos (by rfl)];unfold Oper.wp;go_simp
     exact ⟨upd f 3 (H k),by simp [upd],zf (U xv) (U HD) (by decide) (dp_mkv rfl rfl)⟩
    | 4,Z =>
     obtain rfl:=ya Z
     have g2:f 2 = .slice (some (J b off)) cs.length A:=dp_val (hD 2 (ye Q 2 rfl)) rfl rfl
     have g3:f 3 = H k:=dp_val (hD 3 (ye Q 3 rfl)) rfl rfl
     clear Q hD xk xo
     rw [if_pos (by rfl)];unfold Oper.wp;go_simp
     exact ⟨upd f 4 (I b (off + k * 8)),by simp [upd,g2,g3],zf (U xv) (U HD) (by decide) (dp_mkv rfl rfl)⟩
    | 5,Z =>
     obtain rfl:=ya Z
     have g4:f 4 = I b (off + k * 8):=dp_val (hD 4 (ye Q 4 rfl)) rfl rfl
     obtain ⟨q0,q1,q2,q3,q4,q5,q6,q7⟩:=cm_cells (zb (U HCM) xk hbw)
     clear Q hD xk xo
     rw [if_pos (by rfl)];unfold Oper.wp;go_simp
     exact ⟨upd f 5 (.agg (yw c.k c.s c.t c.l c.q c.i c.p c.g).toArray),by simp [upd,g4],zf (U xv) (U HD) (by decide) (dp_mkv rfl rfl)⟩
    | 6,Z =>
     obtain rfl:=ya Z
     have g1:f 1 = .agg #[H n,.slice aq0 l.length cq0]:=dp_val (hD 1 (ye Q 1 rfl)) rfl rfl
     have g5:f 5 = .agg (yw c.k c.s c.t c.l c.q c.i c.p c.g).toArray:=dp_val (hD 5 (ye Q 5 rfl)) rfl rfl
     have hS:=xk.size
     have HRV:=Y (zn (U HRO) xk qt)
     clear Q hD xk xo
     rw [if_pos (by rfl)];unfold Oper.wp;go_simp
     refine (U uK V (U HRV)).mono ?_
     rintro e w4 ⟨vq,vg,rfl,aK,he4,xC⟩
     obtain ⟨aq,cq,rfl⟩:=zT aK
     obtain ⟨ag,cg,rfl⟩:=zT he4
     exact ⟨upd f 6 (.tuple #[.agg #[H N,.slice aq tg.length cq],.slice ag h2.length cg]),by simp [upd,g1,g5],dl dp_grow (U xv) (U HD) xC (by decide) (dp_mk2 rfl ⟨aq,cq,ag,cg,rfl,zH aK hS,zH he4 hS⟩)⟩
    | 7,Z =>
     obtain rfl:=ya Z
     obtain ⟨aq,cq,ag,cg,g,E,h3⟩:=dp_2 (hD 6 (ye Q 6 rfl)) rfl
     have H2:=Y E
     have H3:=Y h3
     clear E h3
     clear Q hD xk xo
     rw [if_pos (by rfl)];unfold Oper.wp;go_simp
     exact ⟨upd f 7 (.tuple #[.agg #[H N,.slice aq tg.length cq],.slice ag h2.length cg]),by simp [upd,g],zf (U xv) (U HD) (by decide) (dp_mk2 rfl ⟨aq,cq,ag,cg,rfl,U H2,U H3⟩)⟩
    | 8,Z =>
     obtain rfl:=ya Z
     obtain ⟨aq,cq,ag,cg,g,E,h3⟩:=dp_2 (hD 7 (ye Q 7 rfl)) rfl
     have H2:=Y E
     have H3:=Y h3
     clear E h3
     clear Q hD xk xo
     rw [if_pos (by rfl)];unfold Oper.wp;go_simp
     exact ⟨upd f 8 (.agg #[H N,.slice aq tg.length cq]),by simp [upd,g],zf (U xv) (U HD) (by decide) (dp_mk3 rfl ⟨aq,cq,rfl,U H2⟩)⟩
    | 9,Z =>
     obtain rfl:=ya Z
     obtain ⟨aq,cq,ag,cg,g,E,h3⟩:=dp_2 (hD 7 (ye Q 7 rfl)) rfl
     have H2:=Y E
     have H3:=Y h3
     clear E h3
     clear Q hD xk xo
     rw [if_pos (by rfl)];unfold Oper.wp;go_simp
     exact ⟨upd f 9 (.slice ag h2.length cg),by simp [upd,g],zf (U xv) (U HD) (by decide) (dp_mk4 rfl ⟨ag,cg,rfl,U H3⟩)⟩
    | 10,Z =>
     obtain rfl:=ya Z
     have hp:¬ x[11]? = some true:=by rw [zy xo 12 10 11 (by kernel_rfl) hx (by simp) xy]; simp
     have hS:=xk.size
     clear Q hD xk xo
     rw [if_pos (by rfl)];unfold Oper.wp;go_simp
     exact ⟨upd f 10 (I V.heap.size 0),by simp [upd],dl dp_grow (U xv) (U HD) (eD _ _) (by decide) (dp_mk5 rfl hp hS)⟩
    | 11,Z =>
     obtain rfl:=ya Z
     obtain ⟨aq,cq,g6,ho6⟩:=dp_3 (hD 8 (ye Q 8 rfl)) rfl
     obtain ⟨b0,g9,hSb,hlt0,xF,jg,-⟩:=dp_5 (hD 10 (ye Q 10 rfl)) rfl
     have HSX:Hid (∀ j,j ≠ 11→x[j]? = some true→DP [I (w.heap.size + 1) 1,.agg #[H n,.slice aq0 l.length cq0],.slice (some (J b off)) cs.length A,H k,I b (off + k * 8),.agg (yw c.k c.s c.t c.l c.q c.i c.p c.g).toArray] [(6,2),(7,2),(8,3),(9,4),(10,5),(11,9),(12,4)] wr.heap.size n N l tg h2 False V j (f j)→DP [I (w.heap.size + 1) 1,.agg #[H n,.slice aq0 l.length cq0],.slice (some (J b off)) cs.length A,H k,I b (off + k * 8),.agg (yw c.k c.s c.t c.l c.q c.i c.p c.g).toArray] [(6,2),(7,2),(8,3),(9,4),(10,5),(11,9),(12,4)] wr.heap.size n N l tg h2 True (V.setCells b0 0 [H N,.slice aq tg.length cq]) j (f j)):=fun j K hxj h=>dp_store hSb xF hlt0 jg ho6 (fun hk=>by rw [look_only hk (i:=10) (by decide)]; exact g9) h
     have ui:=Y (zo b0 hSb [H N,.slice aq tg.length cq] 0 _ xk)
     obtain ⟨p0,x0,f0⟩:=ze xF (j:=0) (by omega)
     obtain ⟨p1,x1,f1⟩:=ze xF (j:=1) (by omega)
     clear Q hD xk xo xF jg ho6
     rw [if_pos (by rfl)];unfold Oper.wp;go_simp
     exact ⟨f,by simp [g6,g9],rg_write2 (U ui) (U HD) xy (U HSX) (dp_mk9 rfl)⟩
    | 12,Z =>
     obtain rfl:=ya Z
     obtain ⟨ag,cg,g,h3⟩:=dp_4 (hD 9 (ye Q 9 rfl)) rfl
     have H3:=Y h3
     clear h3
     clear Q hD xk xo
     rw [if_pos (by rfl)];unfold Oper.wp;go_simp
     exact ⟨upd f 12 (.slice ag h2.length cg),by simp [upd,g],zf (U xv) (U HD) (by decide) (dp_mk4 rfl ⟨ag,cg,rfl,U H3⟩)⟩
    | n + 13,Z=>simp at Z
   ·rintro x xm V ⟨f,rfl,xk,hD⟩ hx xP
    have xp:=zR xP hx (by kernel_rfl)
    obtain ⟨ag,cg,e12,hge⟩:=dp_4 (hD 12 (xp 12 (by simp))) rfl
    obtain ⟨bb,oE,hSb,hltb,-,hbxb,qy⟩:=dp_5 (hD 10 (xp 10 (by simp))) rfl
    obtain ⟨aq,cq,hra,hro⟩:=qy (xp 11 (by simp))
    simp only [e12,oE]
    have jR:=Y (lg_below (U HG) xk)
    have HOV:=Y (zH hro ja)
    have vH:=Y (zH hge ja)
    have x0:V.cell? (J bb 0) = some (H N):=hra 0 _ rfl
    have x1:V.cell? (J bb 1) = some (.slice aq tg.length cq):=hra 1 _ rfl
    obtain ⟨y1,z1,q1⟩:=ze (U jR).t (j:=1) (by omega)
    obtain ⟨y2,z2,q2⟩:=ze (U jR).t (j:=2) (by omega)
    have m0:V.cell? (J (w.heap.size + 1) 0) = some (.slice ga gs.length gc):=(U jR).r 0 _ rfl
    clear e12 hge oE hltb hbxb qy hra hro hD xp xP hx xk
    generalize f 0 = v0,f 1 = v1,f 2 = v2,f 3 = v3,f 4 = v4,f 5 = v5,f 6 = v6,f 7 = v7,f 8 = v8,f 9 = v9
    rename_i KA haA
    refine haA _ _ ?_
    clear haA KA
    refine eH fun K2 kf=>?_
    go_wp2_with fail
    refine U kf _ _ ?_
    clear kf x0 x1 z1 q1 z2 q2 m0
    have HLB:=Y (lg_book (U jR) N tg (U HOV))
    have jw:=Y (zu (zu (U vH) (zl (U vH) (U jR).bx (by decide)) 1 (H N)) (zl (U vH) (U jR).bx (by decide)) 2 (.slice aq tg.length cq))
    clear jR vH HOV
    generalize (V.setCell (J (w.heap.size + 1) 1) (H N)).setCell (J (w.heap.size + 1) 2) (.slice aq tg.length cq) = V1 at HLB jw ⊢
    have m0:V1.cell? (J (w.heap.size + 1) 0) = some (.slice ga gs.length gc):=(U HLB).r 0 _ rfl
    refine wp_region_lit ?_
    refine wpList_step fun K3 vR=>?_
    have vz:=Y vR
    clear vR
    rw [if_pos (by rfl)];unfold Oper.wp;go_simp
    refine U vz _ _ ?_
    clear vz
    refine wpList_step fun K3 vR=>?_
    have vz:=Y vR
    clear vR
    rw [if_pos (by rfl)];unfold Oper.wp;go_simp
    refine U vz _ _ ?_
    clear vz
    refine wpList_step fun K3 vR=>?_
    have vz:=Y vR
    clear vR
    rw [if_pos (by rfl)];unfold Oper.wp;go_simp
    refine U vz _ _ ?_
    clear vz
    refine wpList_step fun K3 vR=>?_
    have vz:=Y vR
    clear vR
    rw [if_pos (by rfl)];unfold Oper.wp;go_simp
    refine U vz _ _ ?_
    clear vz
    have bA:=eD V1 (eF #[.slice ag h2.length cg] 38)
    have jP:=Y (lg_below (U HLB) bA)
    have HEC:=Y (zI (U jw) bA)
    have ol:(V1.alloc (eF #[.slice ag h2.length cg] 38)).cell? (J V1.heap.size 0) = some (.slice ag h2.length cg):=zi V1 [.slice ag h2.length cg] 38 0 _ rfl
    generalize V1.alloc (eF #[.slice ag h2.length cg] 38) = V2 at jP HEC ol ⊢
    generalize V1.heap.size = vs at ol ⊢
    clear bA HLB jw m0
    refine wpList_step fun K3 vR=>?_
    have vz:=Y vR
    clear vR
    rw [if_pos (by rfl)]
    refine wp_append_own V2 (.tmp 28) (.tmp 30) 25 rfl (w.heap.size + 1 + 1) 38 i0 _ 1 24 Tryz.underlying25 uH uF uJ uQ rfl (by decide) (.slice ga gs.length gc) gs.length gs rfl (U jP).g (J vs 0) 1 1 [.slice ag h2.length cg] rfl rfl (fun j u hu=>by match j,hu with | 0,hu=>cases hu; rw [Addr.add_mid]; exact ol | j + 1,hu=>simp at hu) (by intro u hu; simp at hu; subst hu; rfl) (by have:=U HGS; unfold maxLen; omega) (by have:=U HGS; omega) (by have:=(U jP).z; omega) ?_
    intro v' w' xN uk _
    have HOW:Hid (GRow w' (w.heap.size + 1 + 1) v' (gs ++ [Value.slice ag h2.length cg])):=by show w'.ownsRow _ _ _ _ (gs ++ [Value.slice ag h2.length cg]).length _; rw [yP]; exact xN
    obtain ⟨ga',gc',hv'⟩:=zT (U HOW)
    subst hv'
    have HLD:=Y (lg_group (U jP) (U HEC) (U HOW) uk)
    obtain ⟨y0,z0,q0⟩:=ze (bK (U jP).t uk (by have:=(U jP).z; omega) (zl (U jP).g (U jP).bx (by decide))) (j:=0) (by omega)
    clear xN uk jP HEC ol
    refine U vz _ _ ?_
    clear vz
    refine wpList_step fun K3 vR=>?_
    have vz:=Y vR
    clear vR
    rw [if_pos (by rfl)];unfold Oper.wp;go_simp
    refine U vz _ _ ?_
    clear vz
    refine wpList_step fun K3 vR=>?_
    have vz:=Y vR
    clear vR
    rw [if_pos (by rfl)];unfold Oper.wp;go_simp
    refine U vz _ _ ?_
    clear vz
    have elen:(gs ++ [Value.slice ag h2.length cg]).length = gs.length + 1:=by simp
    rw [elen] at HLD
    clear elen
    generalize w'.setCell (J (w.heap.size + 1) 0) (.slice ga' (gs.length + 1) gc') = V3 at HLD ⊢
    clear z0 q0
    refine wpList_nil ?_
    go_wp2_with fail
    go_roundw
    case rel=>exact ⟨k + 1,by omega,by go_num,_,_,_,by rw [U qb]; exact lg_tot _ (U HLD)⟩
    case measure=>simp [intOf]; omega
  ·have un:¬ (k:Int) < cs.length:=by omega
   rw [yZ (by omega)] at HG
   have HFW:=Y (run_few cs jz cs.length qt)
   have HRI:=Y (run_inv cs jz)
   rw [yZ qt] at HFW
   go_wp2_with fail
   refine U xu _ _ ?_
   clear xu xJ un
   generalize runS cs = s at HG HF HFW HRI
   obtain ⟨n,l,gl,t⟩:=s
   simp only at HF HFW HRI
   obtain ⟨aq,cq,hv⟩:=zT (U HG).q
   simp only at hv
   subst hv
   obtain ⟨ga,gc,hgv⟩:=zT (U HG).g
   subst hgv
   have oT:gs.length = gl.length:=(U HG).gl
   have HGD:=Y (grs_rd (U HG).g oT (U HG).ge (by have:=(U HRI).2.2.2; omega) (fun es vh=>yN (U HFW es vh) (by omega)))
   have HOD:Hid (RdR Od.vs 6 wr (.slice aq l.length cq) l):=zN (U HG).q (by have:=(U HRI).1.good.len; omega)
   have kM:=Y oT
   clear oT
   have HTO:=Y (l04Totals_any _ gl n _ l wr (U HGD) (U HOD))
   generalize totM gl l = T at HTO HF
   obtain ⟨ud,uc,uf,ug,uh,ue,uu,ut⟩:=T
   simp only at HTO
   have m0:wr.cell? (J (w.heap.size + 1) 0) = some (.slice ga gs.length gc):=(U HG).r 0 _ rfl
   have m1:wr.cell? (J (w.heap.size + 1) 1) = some (H n):=(U HG).r 1 _ rfl
   have m2:wr.cell? (J (w.heap.size + 1) 2) = some (.slice aq l.length cq):=(U HG).r 2 _ rfl
   refine eH fun hj xu=>?_
   go_wp2_with fail
   refine (U HTO).mono ?_
   rintro e V2 ⟨rfl,xY⟩
   clear m0 m1 m2
   have uM:=Y (lg_below (U HG) xY)
   clear xY
   have uQ:=(U uM).z
   obtain ⟨y3,z3,q3⟩:=ze (U uM).t (j:=3) (by omega)
   obtain ⟨y4,z4,q4⟩:=ze (U uM).t (j:=4) (by omega)
   obtain ⟨y5,z5,q5⟩:=ze (U uM).t (j:=5) (by omega)
   obtain ⟨y6,z6,q6⟩:=ze (U uM).t (j:=6) (by omega)
   obtain ⟨y7,z7,q7⟩:=ze (U uM).t (j:=7) (by omega)
   obtain ⟨y8,z8,q8⟩:=ze (U uM).t (j:=8) (by omega)
   obtain ⟨y9,z9,q9⟩:=ze (U uM).t (j:=9) (by omega)
   obtain ⟨y10,z10,q10⟩:=ze (U uM).t (j:=10) (by omega)
   go_wp2_with fail
   refine U xu _ _ ?_
   clear xu z3 q3 z4 q4 z5 q5 z6 q6 z7 q7 z8 q8 z9 q9 z10 q10
   change Code.wp _ _ _ _ (V2.setCells (w.heap.size + 1) 3 (Tot.mk ud uc uf ug uh ue uu ut).vs)
   have jI:Hid (V2.there (w.heap.size + 1) 3 8):=fun j K=>by
    have:=(U uM).t (3 + j) (by omega)
    rwa [Nat.zero_add] at this
   have ji:=Y (yX V2 (w.heap.size + 1) 3 (Tot.mk ud uc uf ug uh ue uu ut).vs (fun j K=>U jI j (by simpa [Tot.vs] using K)))
   have HC0:Hid (∀ j u,j < 3→V2.cell? (J (w.heap.size + 1) j) = some u→(V2.setCells (w.heap.size + 1) 3 (Tot.mk ud uc uf ug uh ue uu ut).vs).cell? (J (w.heap.size + 1) j) = some u):=fun j u K hu=>(World.cell?_setCells_out (w.heap.size + 1) _ 3 V2 (J (w.heap.size + 1) j) (fun _ _=>.inl K)).trans hu
   have qC:Hid (World.there (V2.setCells (w.heap.size + 1) 3 (Tot.mk ud uc uf ug uh ue uu ut).vs) w.heap.size 0 11):=there_blk (U uM).o (dp (w.heap.size + 1) w.heap.size (by omega) _ 3 V2)
   have xv:=Y (zo (w.heap.size + 1) (by omega) (Tot.mk ud uc uf ug uh ue uu ut).vs 3 V2 (U uM).b)
   have vK:Hid (∀ {e sz m:Nat} {v:Value} {xs:List Value},V2.ownsRow (w.heap.size + 1 + 1) e sz v m xs→32 ≠ e→World.ownsRow ((V2.setCells (w.heap.size + 1) 3 (Tot.mk ud uc uf ug uh ue uu ut).vs).setCells w.heap.size 0 [.slice ga gs.length gc,H n,.slice aq l.length cq,H ud,H uc,H uf,H ug,H uh,H ue,H uu,H ut]) w.heap.size e sz v m xs):=fun {e sz m v xs} h hne'=>row_end h (zl h (U uM).bx hne') (Below.refl _ _) (by omega) (by omega) _ _ _ _
   generalize V2.setCells (w.heap.size + 1) 3 (Tot.mk ud uc uf ug uh ue uu ut).vs = V at ji HC0 qC xv vK ⊢
   have m0:=U HC0 0 _ (by omega) ((U uM).r 0 _ rfl)
   have m1:=U HC0 1 _ (by omega) ((U uM).r 1 _ rfl)
   have m2:=U HC0 2 _ (by omega) ((U uM).r 2 _ rfl)
   simp only at m1
   have m3:V.cell? (J (w.heap.size + 1) 3) = some (H ud):=U ji 0 _ rfl
   have m4:V.cell? (J (w.heap.size + 1) 4) = some (H uc):=U ji 1 _ rfl
   have m5:V.cell? (J (w.heap.size + 1) 5) = some (H uf):=U ji 2 _ rfl
   have m6:V.cell? (J (w.heap.size + 1) 6) = some (H ug):=U ji 3 _ rfl
   have m7:V.cell? (J (w.heap.size + 1) 7) = some (H uh):=U ji 4 _ rfl
   have m8:V.cell? (J (w.heap.size + 1) 8) = some (H ue):=U ji 5 _ rfl
   have m9:V.cell? (J (w.heap.size + 1) 9) = some (H uu):=U ji 6 _ rfl
   have m10:V.cell? (J (w.heap.size + 1) 10) = some (H ut):=U ji 7 _ rfl
   obtain ⟨y0,z0,q0⟩:=ze (U qC) (j:=0) (by omega)
   obtain ⟨y1,z1,q1⟩:=ze (U qC) (j:=1) (by omega)
   obtain ⟨y2,z2,q2⟩:=ze (U qC) (j:=2) (by omega)
   obtain ⟨y3,z3,q3⟩:=ze (U qC) (j:=3) (by omega)
   obtain ⟨y4,z4,q4⟩:=ze (U qC) (j:=4) (by omega)
   obtain ⟨y5,z5,q5⟩:=ze (U qC) (j:=5) (by omega)
   obtain ⟨y6,z6,q6⟩:=ze (U qC) (j:=6) (by omega)
   obtain ⟨y7,z7,q7⟩:=ze (U qC) (j:=7) (by omega)
   obtain ⟨y8,z8,q8⟩:=ze (U qC) (j:=8) (by omega)
   obtain ⟨y9,z9,q9⟩:=ze (U qC) (j:=9) (by omega)
   obtain ⟨y10,z10,q10⟩:=ze (U qC) (j:=10) (by omega)
   have xQ:=Y (yX V w.heap.size 0 [.slice ga gs.length gc,H n,.slice aq l.length cq,H ud,H uc,H uf,H ug,H uh,H ue,H uu,H ut] (fun j K=>U qC j K))
   have qf:=Y (zo w.heap.size qt [.slice ga gs.length gc,H n,.slice aq l.length cq,H ud,H uc,H uf,H ug,H uh,H ue,H uu,H ut] 0 V (U xv))
   have HGG:Hid (GRs (V.setCells w.heap.size 0 [.slice ga gs.length gc,H n,.slice aq l.length cq,H ud,H uc,H uf,H ug,H uh,H ue,H uu,H ut]) w.heap.size (.slice ga gs.length gc) gl):=⟨gs,U vK (U uM).g (by decide),U kM,fun i g es hg vh=>U vK ((U uM).ge i g es hg vh) (by decide)⟩
   have HO:Hid (ORow (V.setCells w.heap.size 0 [.slice ga gs.length gc,H n,.slice aq l.length cq,H ud,H uc,H uf,H ug,H uh,H ue,H uu,H ut]) w.heap.size (.slice aq l.length cq) l):=U vK (U uM).q (by decide)
   clear vK
   go_wp2_with fail
   change bodyPost _ _ _ _ _ (V.setCells w.heap.size 0 [.slice ga gs.length gc,H n,.slice aq l.length cq,H ud,H uc,H uf,H ug,H uh,H ue,H uu,H ut])
   generalize V.setCells w.heap.size 0 [.slice ga gs.length gc,H n,.slice aq l.length cq,H ud,H uc,H uf,H ug,H uh,H ue,H uu,H ut] = WE at xQ qf HGG HO ⊢
   obtain rfl:=U HF
   have d0:WE.cell? (J w.heap.size 0) = some (.slice ga gs.length gc):=U xQ 0 _ rfl
   have d1:WE.cell? (J w.heap.size 1) = some (H n):=U xQ 1 _ rfl
   have d2:WE.cell? (J w.heap.size 2) = some (.slice aq l.length cq):=U xQ 2 _ rfl
   have d3:WE.cell? (J w.heap.size 3) = some (H ud):=U xQ 3 _ rfl
   have d4:WE.cell? (J w.heap.size 4) = some (H uc):=U xQ 4 _ rfl
   have d5:WE.cell? (J w.heap.size 5) = some (H uf):=U xQ 5 _ rfl
   have d6:WE.cell? (J w.heap.size 6) = some (H ug):=U xQ 6 _ rfl
   have d7:WE.cell? (J w.heap.size 7) = some (H uh):=U xQ 7 _ rfl
   have d8:WE.cell? (J w.heap.size 8) = some (H ue):=U xQ 8 _ rfl
   have d9:WE.cell? (J w.heap.size 9) = some (H uu):=U xQ 9 _ rfl
   have d10:WE.cell? (J w.heap.size 10) = some (H ut):=U xQ 10 _ rfl
   refine bodyPost_ret (by simp [results,Tryz.results34,go_sem,d0,d1,d2,d3,d4,d5,d6,d7,d8,d9,d10]; try rfl) rfl ?_
   exact ⟨_,_,rfl,U HGG,U HO,U qf⟩
theorem specRunScript_any (v:Value) (cs:List Cm) (w:World) (hr:RdR Cm.vs 8 w v cs) (pW:∀ c ∈ cs,c.g.size ≤ maxLen) :
  Calls Tryz.prog 11 #[v] w fun e w'=>∃ gv vq,e = ym (.tuple #[.agg #[gv,H (rsF cs).n,vq,H (rsF cs).t.gr,H (rsF cs).t.ac,H (rsF cs).t.rf,H (rsF cs).t.tr,H (rsF cs).t.vo,H (rsF cs).t.no,H (rsF cs).t.li,H (rsF cs).t.le],H (cntF cs.length)])∧GRs w' w.heap.size gv (rsF cs).g∧ORow w' w.heap.size vq (rsF cs).l∧yn w w':=by
 have HR:=Y hr
 have qI:=Y pW
 obtain ⟨a,A,rfl,xE,hc⟩:=hr
 clear hc pW
 have hsf:=sfl
 have HF:Hid (rsF cs = if cs.length ≤ 200 then { runS cs with t:=wbT (runS cs).t (runS cs).l } else ⟨0,[],[],tot0⟩):=rfl
 have ko:=Y (cntF.eq_1 cs.length)
 have HRU:=Y (fun (h:cs.length ≤ 200) (W:World) hW=>l04Run_any (.slice a cs.length A) cs W hW (U qI) h)
 generalize rsF cs = hb at HF HRU ⊢
 generalize cntF cs.length = CF at ko ⊢
 have hbX:=eD w (eF #[.slice none 0 0,H 0,.slice none 0 0,H 0,H 0,H 0,H 0,H 0,H 0,H 0,H 0] 32)
 have HX:Hid ((w.alloc (eF #[.slice none 0 0,H 0,.slice none 0 0,H 0,H 0,H 0,H 0,H 0,H 0,H 0,H 0] 32)).heap.size = w.heap.size + 1∧World.there (w.alloc (eF #[.slice none 0 0,H 0,.slice none 0 0,H 0,H 0,H 0,H 0,H 0,H 0,H 0,H 0] 32)) w.heap.size 0 11∧yn w (w.alloc (eF #[.slice none 0 0,H 0,.slice none 0 0,H 0,H 0,H 0,H 0,H 0,H 0,H 0,H 0] 32))):=⟨zh _ _,zv w [.slice none 0 0,H 0,.slice none 0 0,H 0,H 0,H 0,H 0,H 0,H 0,H 0,H 0] 32,hbX⟩
 clear hbX
 go_enter Tryz.func11,Tryz.ntmps11
 refine eH fun hj xu=>?_
 go_wp2_with fail
 refine U xu _ _ ?_
 clear xu
 generalize (w.alloc (eF #[.slice none 0 0,H 0,.slice none 0 0,H 0,H 0,H 0,H 0,H 0,H 0,H 0,H 0] 32)) = hR at HX ⊢
 obtain ⟨y0,z0,q0⟩:=ze (U HX).2.1 (j:=0) (by omega)
 obtain ⟨y1,z1,q1⟩:=ze (U HX).2.1 (j:=1) (by omega)
 obtain ⟨y2,z2,q2⟩:=ze (U HX).2.1 (j:=2) (by omega)
 obtain ⟨y3,z3,q3⟩:=ze (U HX).2.1 (j:=3) (by omega)
 obtain ⟨y4,z4,q4⟩:=ze (U HX).2.1 (j:=4) (by omega)
 obtain ⟨y5,z5,q5⟩:=ze (U HX).2.1 (j:=5) (by omega)
 obtain ⟨y6,z6,q6⟩:=ze (U HX).2.1 (j:=6) (by omega)
 obtain ⟨y7,z7,q7⟩:=ze (U HX).2.1 (j:=7) (by omega)
 obtain ⟨y8,z8,q8⟩:=ze (U HX).2.1 (j:=8) (by omega)
 obtain ⟨y9,z9,q9⟩:=ze (U HX).2.1 (j:=9) (by omega)
 obtain ⟨y10,z10,q10⟩:=ze (U HX).2.1 (j:=10) (by omega)
 by_cases G:4096 < cs.length
 ·have qP:Hid (hb = ⟨0,[],[],tot0⟩):=(U HF).trans (if_neg (by omega))
  have HCD:Hid (CF = 2):=(U ko).trans (if_pos G)
  have kS:(4096:Int) < cs.length:=by omega
  have xQ:=Y (yX hR w.heap.size 0 [.slice none 0 0,H 0,.slice none 0 0,H 0,H 0,H 0,H 0,H 0,H 0,H 0,H 0] (fun j K=>(U HX).2.1 j K))
  have qf:=Y (zo w.heap.size qt [.slice none 0 0,H 0,.slice none 0 0,H 0,H 0,H 0,H 0,H 0,H 0,H 0,H 0] 0 hR (U HX).2.2)
  clear HF ko HRU
  go_wp2_with fail
  change bodyPost _ _ _ _ _ (hR.setCells w.heap.size 0 [.slice none 0 0,H 0,.slice none 0 0,H 0,H 0,H 0,H 0,H 0,H 0,H 0,H 0])
  generalize hR.setCells w.heap.size 0 [.slice none 0 0,H 0,.slice none 0 0,H 0,H 0,H 0,H 0,H 0,H 0,H 0,H 0] = WE at xQ qf ⊢
  obtain rfl:=U qP
  have d0:WE.cell? (yq w 0) = some (.slice none 0 0):=U xQ 0 _ rfl
  have d1:WE.cell? (yq w 1) = some (H 0):=U xQ 1 _ rfl
  have d2:WE.cell? (yq w 2) = some (.slice none 0 0):=U xQ 2 _ rfl
  have d3:WE.cell? (yq w 3) = some (H 0):=U xQ 3 _ rfl
  have d4:WE.cell? (yq w 4) = some (H 0):=U xQ 4 _ rfl
  have d5:WE.cell? (yq w 5) = some (H 0):=U xQ 5 _ rfl
  have d6:WE.cell? (yq w 6) = some (H 0):=U xQ 6 _ rfl
  have d7:WE.cell? (yq w 7) = some (H 0):=U xQ 7 _ rfl
  have d8:WE.cell? (yq w 8) = some (H 0):=U xQ 8 _ rfl
  have d9:WE.cell? (yq w 9) = some (H 0):=U xQ 9 _ rfl
  have d10:WE.cell? (yq w 10) = some (H 0):=U xQ 10 _ rfl
  refine bodyPost_ret (by simp [results,Tryz.results11,go_sem,d0,d1,d2,d3,d4,d5,d6,d7,d8,d9,d10]; try rfl) rfl ?_
  rw [U HCD]
  exact ⟨_,_,rfl,⟨[],World.ownsRow_nil _ _ _ _,rfl,fun i g es hg=>by simp at hg⟩,World.ownsRow_nil _ _ _ _,U qf⟩
 have kS:¬ (4096:Int) < cs.length:=by omega
 by_cases E:200 < cs.length
 ·have qP:Hid (hb = ⟨0,[],[],tot0⟩):=(U HF).trans (if_neg (by omega))
  have HCD:Hid (CF = 7):=(U ko).trans ((if_neg G).trans (if_pos E))
  have ki:(200:Int) < cs.length:=by omega
  have xQ:=Y (yX hR w.heap.size 0 [.slice none 0 0,H 0,.slice none 0 0,H 0,H 0,H 0,H 0,H 0,H 0,H 0,H 0] (fun j K=>(U HX).2.1 j K))
  have qf:=Y (zo w.heap.size qt [.slice none 0 0,H 0,.slice none 0 0,H 0,H 0,H 0,H 0,H 0,H 0,H 0,H 0] 0 hR (U HX).2.2)
  clear HF ko HRU
  go_wp2_with fail
  change bodyPost _ _ _ _ _ (hR.setCells w.heap.size 0 [.slice none 0 0,H 0,.slice none 0 0,H 0,H 0,H 0,H 0,H 0,H 0,H 0,H 0])
  generalize hR.setCells w.heap.size 0 [.slice none 0 0,H 0,.slice none 0 0,H 0,H 0,H 0,H 0,H 0,H 0,H 0,H 0] = WE at xQ qf ⊢
  obtain rfl:=U qP
  have d0:WE.cell? (yq w 0) = some (.slice none 0 0):=U xQ 0 _ rfl
  have d1:WE.cell? (yq w 1) = some (H 0):=U xQ 1 _ rfl
  have d2:WE.cell? (yq w 2) = some (.slice none 0 0):=U xQ 2 _ rfl
  have d3:WE.cell? (yq w 3) = some (H 0):=U xQ 3 _ rfl
  have d4:WE.cell? (yq w 4) = some (H 0):=U xQ 4 _ rfl
  have d5:WE.cell? (yq w 5) = some (H 0):=U xQ 5 _ rfl
  have d6:WE.cell? (yq w 6) = some (H 0):=U xQ 6 _ rfl
  have d7:WE.cell? (yq w 7) = some (H 0):=U xQ 7 _ rfl
  have d8:WE.cell? (yq w 8) = some (H 0):=U xQ 8 _ rfl
  have d9:WE.cell? (yq w 9) = some (H 0):=U xQ 9 _ rfl
  have d10:WE.cell? (yq w 10) = some (H 0):=U xQ 10 _ rfl
  refine bodyPost_ret (by simp [results,Tryz.results11,go_sem,d0,d1,d2,d3,d4,d5,d6,d7,d8,d9,d10]; try rfl) rfl ?_
  rw [U HCD]
  exact ⟨_,_,rfl,⟨[],World.ownsRow_nil _ _ _ _,rfl,fun i g es hg=>by simp at hg⟩,World.ownsRow_nil _ _ _ _,U qf⟩
 have ki:¬ (200:Int) < cs.length:=by omega
 have HCD:Hid (CF = 0):=(U ko).trans ((if_neg G).trans (if_neg E))
 have HRU1:=Y (U HRU (by omega) hR (zn (U HR) (U HX).2.2 qt))
 clear HRU HF ko z0 q0 z1 q1 z2 q2 z3 q3 z4 q4 z5 q5 z6 q6 z7 q7 z8 q8 z9 q9 z10 q10
 obtain ⟨fn,fl,fg,⟨ud,uc,uf,ug,uh,ue,uu,ut⟩⟩:=hb
 simp only at HRU1 ⊢
 go_wp2_with fail
 refine (U HRU1).mono ?_
 rintro e w4 ⟨gv,vq,rfl,⟨gs,hg,oT,hge⟩,hq,xC⟩
 obtain ⟨aq,cq,hv⟩:=zT hq
 subst hv
 obtain ⟨ga,gc,hgv⟩:=zT hg
 subst hgv
 have hxs:=(U HX).1
 have aC:=Y (zg (U HX).2.1 xC (by omega))
 have uo:=Y ((U HX).2.2.trans (xC.mono (U HX).2.2.size))
 obtain ⟨y0,z0,q0⟩:=ze (U aC) (j:=0) (by omega)
 obtain ⟨y1,z1,q1⟩:=ze (U aC) (j:=1) (by omega)
 obtain ⟨y2,z2,q2⟩:=ze (U aC) (j:=2) (by omega)
 obtain ⟨y3,z3,q3⟩:=ze (U aC) (j:=3) (by omega)
 obtain ⟨y4,z4,q4⟩:=ze (U aC) (j:=4) (by omega)
 obtain ⟨y5,z5,q5⟩:=ze (U aC) (j:=5) (by omega)
 obtain ⟨y6,z6,q6⟩:=ze (U aC) (j:=6) (by omega)
 obtain ⟨y7,z7,q7⟩:=ze (U aC) (j:=7) (by omega)
 obtain ⟨y8,z8,q8⟩:=ze (U aC) (j:=8) (by omega)
 obtain ⟨y9,z9,q9⟩:=ze (U aC) (j:=9) (by omega)
 obtain ⟨y10,z10,q10⟩:=ze (U aC) (j:=10) (by omega)
 have xQ:=Y (yX w4 w.heap.size 0 [.slice ga gs.length gc,H fn,.slice aq fl.length cq,H ud,H uc,H uf,H ug,H uh,H ue,H uu,H ut] (fun j K=>U aC j K))
 have qf:=Y (zo w.heap.size qt [.slice ga gs.length gc,H fn,.slice aq fl.length cq,H ud,H uc,H uf,H ug,H uh,H ue,H uu,H ut] 0 w4 (U uo))
 have vK:Hid (∀ {e sz m:Nat} {v:Value} {xs:List Value},w4.ownsRow hR.heap.size e sz v m xs→World.ownsRow (w4.setCells w.heap.size 0 [.slice ga gs.length gc,H fn,.slice aq fl.length cq,H ud,H uc,H uf,H ug,H uh,H ue,H uu,H ut]) w.heap.size e sz v m xs):=fun {e sz m v xs} h=>by
  have h3:=cP (b:=w.heap.size) (fun e'=>by have:=(h.lt _ e'.symm).1; omega) [.slice ga gs.length gc,H fn,.slice aq fl.length cq,H ud,H uc,H uf,H ug,H uh,H ue,H uu,H ut] 0 _ h
  refine ⟨h3.1,?_⟩
  rcases h3.2 with k1 | ⟨g',c',xr,k1,k2,k3⟩
  ·exact .inl k1
  ·exact .inr ⟨g',c',xr,k1,by omega,k3⟩
 have HGG:Hid (GRs (w4.setCells w.heap.size 0 [.slice ga gs.length gc,H fn,.slice aq fl.length cq,H ud,H uc,H uf,H ug,H uh,H ue,H uu,H ut]) w.heap.size (.slice ga gs.length gc) fg):=⟨gs,U vK hg,oT,fun i g es G E=>U vK (hge i g es G E)⟩
 have HO:Hid (ORow (w4.setCells w.heap.size 0 [.slice ga gs.length gc,H fn,.slice aq fl.length cq,H ud,H uc,H uf,H ug,H uh,H ue,H uu,H ut]) w.heap.size (.slice aq fl.length cq) fl):=U vK hq
 clear vK hg oT hge hq xC hxs
 go_wp2_with fail
 change bodyPost _ _ _ _ _ (w4.setCells w.heap.size 0 [.slice ga gs.length gc,H fn,.slice aq fl.length cq,H ud,H uc,H uf,H ug,H uh,H ue,H uu,H ut])
 generalize w4.setCells w.heap.size 0 [.slice ga gs.length gc,H fn,.slice aq fl.length cq,H ud,H uc,H uf,H ug,H uh,H ue,H uu,H ut] = WE at xQ qf HGG HO ⊢
 have d0:WE.cell? (yq w 0) = some (.slice ga gs.length gc):=U xQ 0 _ rfl
 have d1:WE.cell? (yq w 1) = some (H fn):=U xQ 1 _ rfl
 have d2:WE.cell? (yq w 2) = some (.slice aq fl.length cq):=U xQ 2 _ rfl
 have d3:WE.cell? (yq w 3) = some (H ud):=U xQ 3 _ rfl
 have d4:WE.cell? (yq w 4) = some (H uc):=U xQ 4 _ rfl
 have d5:WE.cell? (yq w 5) = some (H uf):=U xQ 5 _ rfl
 have d6:WE.cell? (yq w 6) = some (H ug):=U xQ 6 _ rfl
 have d7:WE.cell? (yq w 7) = some (H uh):=U xQ 7 _ rfl
 have d8:WE.cell? (yq w 8) = some (H ue):=U xQ 8 _ rfl
 have d9:WE.cell? (yq w 9) = some (H uu):=U xQ 9 _ rfl
 have d10:WE.cell? (yq w 10) = some (H ut):=U xQ 10 _ rfl
 refine bodyPost_ret (by simp [results,Tryz.results11,go_sem,d0,d1,d2,d3,d4,d5,d6,d7,d8,d9,d10]; try rfl) rfl ?_
 rw [U HCD]
 exact ⟨_,_,rfl,U HGG,U HO,U qf⟩
end Go.Proofs.YtbakanofkghmiaaGreat
