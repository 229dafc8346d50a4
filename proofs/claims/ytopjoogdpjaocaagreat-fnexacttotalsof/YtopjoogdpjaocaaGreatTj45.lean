/-
  A script run, by the model: proved by walking the function.
-/
import Derived.Test.YtopjoogdpjaocaaGreatTj44
set_option linter.unusedVariables false
set_option maxHeartbeats 6400000
set_option maxRecDepth 100000
namespace Go.Proofs.YtopjoogdpjaocaaGreat
open Go.RowKit
theorem lg_tot {w W:World} {gv:Value} {gs:List Value} {vq:Value} {n:Int} {l:List Od} {g:List (List Ev)} {t:Tot} (t':Tot) (h:LG w W gv gs vq ⟨n,l,g,t⟩):LG w W gv gs vq ⟨n,l,g,t'⟩:=⟨h.r,h.t,h.o,h.bx,h.g,h.gl,h.ge,h.q,h.b,h.z⟩
theorem run_few (cs:List Cm) (h:cs.length ≤ 200):∀ k,k ≤ cs.length→∀ es ∈ (runS (cs.take k)).g,es.length ≤ 100:=by
 intro k
 induction k with
 | zero=>intro _ es hes; simp [runS] at hes
 | succ k ih =>
  intro hk es hes
  obtain ⟨c,hc⟩:∃ c,cs[k]? = some c:=⟨_,List.getElem?_eq_getElem (by omega)⟩
  have hi:=(run_take cs h k (by omega)).1
  have ih:=ih (by omega)
  rw [zcf cs hc] at hes
  generalize runS (cs.take k) = s at hi ih hes
  rcases List.mem_append.1 (show es ∈ s.g ++ [stE s.n s.l c] from hes) with h1 | h1
  ·exact ih es h1
  ·rw [List.mem_singleton.1 h1]; exact stE_len hi.good
set_option maxRecDepth 100000 in
set_option maxHeartbeats 3200000 in
theorem l04Run_any (v:Value) (cs:List Cm) (w:World) (hr:RdR Cm.vs 8 w v cs) (htg:∀ c ∈ cs,c.g.size ≤ maxLen) (h200:cs.length ≤ 200) :
  Calls Tryz.prog 12 #[v] w fun e w'=>∃ gv vq,e = .returned (.agg #[gv,.int .i64 (rsF cs).n,vq,.int .i64 (rsF cs).t.gr,.int .i64 (rsF cs).t.ac,.int .i64 (rsF cs).t.rf,.int .i64 (rsF cs).t.tr,.int .i64 (rsF cs).t.vo,.int .i64 (rsF cs).t.no,.int .i64 (rsF cs).t.li,.int .i64 (rsF cs).t.le])∧GRs w' w.heap.size gv (rsF cs).g∧ORow w' w.heap.size vq (rsF cs).l∧Below w.heap.size w w':=by
 have HTG:=hide htg
 obtain ⟨a,cap,rfl,hlen,hc⟩:=hr
 have hcell:∀ (k:Nat) (c:Cm),cs[k]? = some c→∃ b off,a = some ⟨b,off,none⟩∧b < w.heap.size∧w.rangeAt b (off + k * 8) c.vs:=by
  intro k c hk
  obtain ⟨b,off,h1,h2,h3⟩:=hc (by intro h; rw [h] at hk; simp at hk)
  exact ⟨b,off,h1,h2,h3 k c hk⟩
 have HC:=hide hcell
 clear hcell hc htg
 have hsf:=sfl
 have HIV:=hide (run_take cs h200)
 have HF:Hid (rsF cs = { runS cs with t:=totM (runS cs).g (runS cs).l }):=hide (by rw [rsF,if_pos h200,tot_eq cs h200])
 generalize rsF cs = F at HF ⊢
 obtain ⟨i0,hi0,hz0,hz1,hz2⟩:=info_parts infoEvS
 have hbX:Below w.heap.size w (w.alloc (Obj.cells #[.slice none 0 0,.int .i64 0,.slice none 0 0,.int .i64 0,.int .i64 0,.int .i64 0,.int .i64 0,.int .i64 0,.int .i64 0,.int .i64 0,.int .i64 0] 48)):=(Below.refl _ _).alloc (Nat.le_refl _) _
 have HX:Hid ((w.alloc (Obj.cells #[.slice none 0 0,.int .i64 0,.slice none 0 0,.int .i64 0,.int .i64 0,.int .i64 0,.int .i64 0,.int .i64 0,.int .i64 0,.int .i64 0,.int .i64 0] 48)).heap.size = w.heap.size + 1∧World.there (w.alloc (Obj.cells #[.slice none 0 0,.int .i64 0,.slice none 0 0,.int .i64 0,.int .i64 0,.int .i64 0,.int .i64 0,.int .i64 0,.int .i64 0,.int .i64 0,.int .i64 0] 48)) w.heap.size 0 11∧Below w.heap.size w (w.alloc (Obj.cells #[.slice none 0 0,.int .i64 0,.slice none 0 0,.int .i64 0,.int .i64 0,.int .i64 0,.int .i64 0,.int .i64 0,.int .i64 0,.int .i64 0,.int .i64 0] 48))):=⟨ze _ _,zw w [.slice none 0 0,.int .i64 0,.slice none 0 0,.int .i64 0,.int .i64 0,.int .i64 0,.int .i64 0,.int .i64 0,.int .i64 0,.int .i64 0,.int .i64 0] 48,hbX⟩
 clear hbX
 go_enter Tryz.func12,Tryz.ntmps12
 refine wp_seq_k fun K hK=>?_
 have HK1:=hide hK
 clear hK
 go_wp2_with fail
 refine za HK1 _ _ ?_
 clear HK1
 generalize (w.alloc (Obj.cells #[.slice none 0 0,.int .i64 0,.slice none 0 0,.int .i64 0,.int .i64 0,.int .i64 0,.int .i64 0,.int .i64 0,.int .i64 0,.int .i64 0,.int .i64 0] 48)) = X at HX ⊢
 have hXs:=(za HX).1
 have HL:Hid (LG w (X.alloc (Obj.cells #[.slice none 0 0,.int .i64 1,.slice none 0 0,.int .i64 0,.int .i64 0,.int .i64 0,.int .i64 0,.int .i64 0,.int .i64 0,.int .i64 0,.int .i64 0] 48)) (.slice none 0 0) [] (.slice none 0 0) (runS (cs.take 0))):=by
  have b3:Below X.heap.size X (X.alloc (Obj.cells #[.slice none 0 0,.int .i64 1,.slice none 0 0,.int .i64 0,.int .i64 0,.int .i64 0,.int .i64 0,.int .i64 0,.int .i64 0,.int .i64 0,.int .i64 0] 48)):=(Below.refl _ _).alloc (Nat.le_refl _) _
  have r3:=zh X [.slice none 0 0,.int .i64 1,.slice none 0 0,.int .i64 0,.int .i64 0,.int .i64 0,.int .i64 0,.int .i64 0,.int .i64 0,.int .i64 0,.int .i64 0] 48
  have t3:=zw X [.slice none 0 0,.int .i64 1,.slice none 0 0,.int .i64 0,.int .i64 0,.int .i64 0,.int .i64 0,.int .i64 0,.int .i64 0,.int .i64 0,.int .i64 0] 48
  have k3:=heap_alloc_new X (Obj.cells #[.slice none 0 0,.int .i64 1,.slice none 0 0,.int .i64 0,.int .i64 0,.int .i64 0,.int .i64 0,.int .i64 0,.int .i64 0,.int .i64 0,.int .i64 0] 48)
  rw [hXs] at r3 t3 k3
  exact ⟨r3,t3,zf (za HX).2.1 b3 (by omega),⟨_,k3⟩,World.ownsRow_nil _ _ _ _,rfl,fun i g es hg=>by simp at hg,World.ownsRow_nil _ _ _ _,(za HX).2.2.trans (b3.mono (by omega)),by rw [ze]; omega⟩
 refine wp_seq_k fun K hK=>?_
 have HK1:=hide hK
 clear hK
 go_wp2_with fail
 refine za HK1 _ _ ?_
 clear HK1
 generalize (X.alloc (Obj.cells #[.slice none 0 0,.int .i64 1,.slice none 0 0,.int .i64 0,.int .i64 0,.int .i64 0,.int .i64 0,.int .i64 0,.int .i64 0,.int .i64 0,.int .i64 0] 48)) = Y at HL ⊢
 clear hXs HX
 refine wp_seq_k fun K hK=>?_
 have HK1:=hide hK
 clear hK
 go_wp2_with fail
 go_loopw [4] (fun iv wr=>∃ (k:Nat),k ≤ cs.length∧iv = .int .i64 k∧Hid (∃ gv gs vq,LG w wr gv gs vq (runS (cs.take k)))) (fun iv _=>cs.length - (intOf iv).toNat)
 case atStart=>exact ⟨0,Nat.zero_le _,rfl,_,_,_,za HL⟩
 case round =>
  obtain ⟨k,hk,rfl,hin⟩:=hrel
  obtain ⟨gv,gs,vq,hlg⟩:=za hin
  have HG:=hide hlg
  clear hin hlg
  by_cases hlt:k < cs.length
  ·obtain ⟨c,hkc⟩:∃ c,cs[k]? = some c:=⟨_,List.getElem?_eq_getElem hlt⟩
   obtain ⟨b,off,rfl,hb,hcl⟩:=za HC k c hkc
   have HNX:Hid (runS (cs.take (k + 1)) = rstep (runS (cs.take k)) c):=zcf cs hkc
   have hlt':(k:Int) < cs.length:=by omega
   obtain ⟨hi1,hi2,hi3,hi4⟩:=za HIV k hk
   have htge:=za HTG c (List.mem_of_getElem? hkc)
   have HCM:=hide (zb hcl (za HG).b hb)
   have hbw:b < wr.heap.size:=Nat.lt_of_lt_of_le hb (za HG).b.size
   generalize runS (cs.take k) = s at HNX hi1 hi2 hi3 hi4 HG
   obtain ⟨n,l,gl,t⟩:=s
   simp only [rstep] at HNX
   simp only at hi1 hi2 hi3 hi4
   have hl20:=hi1.good.len
   obtain ⟨aq0,cq0,hv⟩:=zV (za HG).q
   simp only at hv
   subst hv
   have HGS:Hid (gs.length = k):=(za HG).gl.trans hi4
   clear hi4
   have HGR:=hide (za HG).g
   obtain ⟨ga,gc,hgv⟩:=zV (za HGR)
   subst hgv
   have HRO:Hid (RdR Od.vs 6 wr (.slice aq0 l.length cq0) l):=zM (za HG).q (by omega)
   have HST:=hide (fun (V:World) hV=>l04Step_any n (.slice aq0 l.length cq0) l c V hV (oRow_sl (za HG).q) hi1.good hi1.side (by omega) (by omega) htge)
   have HLN:=hide (stE_len (c:=c) (next:=n) hi1.good)
   have HLL:=hide (stL_len (c:=c) (next:=n) hi1.good)
   generalize stN n l c = N at HNX HST
   generalize stL n l c = L at HNX HST HLL
   generalize stE n l c = E at HNX HST HLN
   unfold cmV at HST
   have hsz:=(za HG).z
   clear hkc hcl hi1 htge
   go_wp2_with fail
   refine zo (RG wr (fun f=>{ tmps:=#[.slice (some ⟨b,off,none⟩) cs.length cap,undef,.pointer (some ⟨w.heap.size,0,none⟩),.pointer (some ⟨w.heap.size + 1,0,none⟩),.int .i64 k,f 10,f 12,.agg #[.int .i64 1,.slice none 0 0],.agg #[.slice none 0 0,.int .i64 1,.slice none 0 0,.int .i64 0,.int .i64 0,.int .i64 0,.int .i64 0,.int .i64 0,.int .i64 0,.int .i64 0,.int .i64 0],.int .i64 k,.slice (some ⟨b,off,none⟩) cs.length cap,.int .i64 cs.length,.bool true,u13,u14,f 7,f 0,f 1,f 2,f 3,f 4,f 5,f 6,f 8,f 9,u25,u26,u27,u28,u29,u30,u31,u32,undef,undef,undef,undef,undef,undef,undef],defers:=[] }) 11 (DP [.pointer (some ⟨w.heap.size + 1,1,none⟩),.agg #[.int .i64 n,.slice aq0 l.length cq0],.slice (some ⟨b,off,none⟩) cs.length cap,.int .i64 k,.pointer (some ⟨b,off + k * 8,none⟩),.agg #[.int .i64 c.k,.int .i64 c.s,.int .i64 c.t,.int .i64 c.l,.int .i64 c.q,.int .i64 c.i,.float .f64 c.p,.string c.g]] [(6,2),(7,2),(8,3),(9,4),(10,5),(11,9),(12,4)] wr.heap.size n N l L E)) (by kernel_rfl) ?_ ?_ ?_
   ·exact ⟨fun j=>([u16,u17,u18,u19,u20,u21,u22,u15,u23,u24,u5,undef,u6]:List Value)[j]?.getD undef,rfl,⟨rfl,rfl,rfl,Nat.le_refl _,fun _ _=>rfl⟩,fun j hj=>by rw [List.getElem?_replicate] at hj; split at hj <;> simp at hj⟩
   rotate_left
   ·rintro x A V i op ⟨f,rfl,hbel,hD⟩ hcl hx ho hxi hall
    have HBV:=hide hbel
    have HD:=hide hD
    match i,ho with
    | 0,ho =>
     obtain rfl:=Option.some.inj ho
     clear hall hD hbel hcl
     rw [if_pos (by rfl)]
     unfold Oper.wp
     go_simp
     exact ⟨upd f 0 (.pointer (some ⟨w.heap.size + 1,1,none⟩)),by simp [upd],zn (za HBV) (za HD) (by decide) (dp_mkv rfl rfl)⟩
    | 1,ho =>
     obtain rfl:=Option.some.inj ho
     have g0:f 0 = .pointer (some ⟨w.heap.size + 1,1,none⟩):=dp_val (hD 0 (hall ⟨0,.data⟩ (by simp) rfl)) rfl rfl
     have y1:=zb (za HG).r hbel (by omega) 1 _ rfl
     have y2:=zb (za HG).r hbel (by omega) 2 _ rfl
     simp only [Nat.zero_add] at y1 y2
     clear hall hD hbel hcl
     rw [if_pos (by rfl)]
     unfold Oper.wp
     go_simp
     exact ⟨upd f 1 (.agg #[.int .i64 n,.slice aq0 l.length cq0]),by simp [upd,g0],zn (za HBV) (za HD) (by decide) (dp_mkv rfl rfl)⟩
    | 2,ho =>
     obtain rfl:=Option.some.inj ho
     clear hall hD hbel hcl
     rw [if_pos (by rfl)]
     unfold Oper.wp
     go_simp
     exact ⟨upd f 2 (.slice (some ⟨b,off,none⟩) cs.length cap),by simp [upd],zn (za HBV) (za HD) (by decide) (dp_mkv rfl rfl)⟩
    | 3,ho =>
     obtain rfl:=Option.some.inj ho
     clear hall hD hbel hcl
     rw [if_pos (by rfl)]
     unfold Oper.wp
     go_simp
     exact ⟨upd f 3 (.int .i64 k),by simp [upd],zn (za HBV) (za HD) (by decide) (dp_mkv rfl rfl)⟩
    | 4,ho =>
     obtain rfl:=Option.some.inj ho
     have g2:f 2 = .slice (some ⟨b,off,none⟩) cs.length cap:=dp_val (hD 2 (hall ⟨2,.data⟩ (by simp) rfl)) rfl rfl
     have g3:f 3 = .int .i64 k:=dp_val (hD 3 (hall ⟨3,.data⟩ (by simp) rfl)) rfl rfl
     clear hall hD hbel hcl
     rw [if_pos (by rfl)]
     unfold Oper.wp
     go_simp
     exact ⟨upd f 4 (.pointer (some ⟨b,off + k * 8,none⟩)),by simp [upd,g2,g3],zn (za HBV) (za HD) (by decide) (dp_mkv rfl rfl)⟩
    | 5,ho =>
     obtain rfl:=Option.some.inj ho
     have g4:f 4 = .pointer (some ⟨b,off + k * 8,none⟩):=dp_val (hD 4 (hall ⟨4,.data⟩ (by simp) rfl)) rfl rfl
     obtain ⟨q0,q1,q2,q3,q4,q5,q6,q7⟩:=cm_cells (zb (za HCM) hbel hbw)
     clear hall hD hbel hcl
     rw [if_pos (by rfl)]
     unfold Oper.wp
     go_simp
     exact ⟨upd f 5 (.agg #[.int .i64 c.k,.int .i64 c.s,.int .i64 c.t,.int .i64 c.l,.int .i64 c.q,.int .i64 c.i,.float .f64 c.p,.string c.g]),by simp [upd,g4],zn (za HBV) (za HD) (by decide) (dp_mkv rfl rfl)⟩
    | 6,ho =>
     obtain rfl:=Option.some.inj ho
     have g1:f 1 = .agg #[.int .i64 n,.slice aq0 l.length cq0]:=dp_val (hD 1 (hall ⟨1,.data⟩ (by simp) rfl)) rfl rfl
     have g5:f 5 = .agg #[.int .i64 c.k,.int .i64 c.s,.int .i64 c.t,.int .i64 c.l,.int .i64 c.q,.int .i64 c.i,.float .f64 c.p,.string c.g]:=dp_val (hD 5 (hall ⟨5,.data⟩ (by simp) rfl)) rfl rfl
     have hS:=hbel.size
     have HRV:=hide (zl (za HRO) hbel (Nat.le_refl _))
     clear hall hD hbel hcl
     rw [if_pos (by rfl)]
     unfold Oper.wp
     go_simp
     refine (za HST V (za HRV)).mono ?_
     rintro e w4 ⟨vq,vg,rfl,ho4,he4,hb4⟩
     obtain ⟨aq,cq,rfl⟩:=zV ho4
     obtain ⟨ag,cg,rfl⟩:=zV he4
     exact ⟨upd f 6 (.tuple #[.agg #[.int .i64 N,.slice aq L.length cq],.slice ag E.length cg]),by simp [upd,g1,g5],zcr dp_grow (za HBV) (za HD) hb4 (by decide) (dp_mk2 rfl ⟨aq,cq,ag,cg,rfl,zH ho4 hS,zH he4 hS⟩)⟩
    | 7,ho =>
     obtain rfl:=Option.some.inj ho
     obtain ⟨aq,cq,ag,cg,g,h2,h3⟩:=dp_2 (hD 6 (hall ⟨6,.data⟩ (by simp) rfl)) rfl
     have H2:=hide h2
     have H3:=hide h3
     clear h2 h3
     clear hall hD hbel hcl
     rw [if_pos (by rfl)]
     unfold Oper.wp
     go_simp
     exact ⟨upd f 7 (.tuple #[.agg #[.int .i64 N,.slice aq L.length cq],.slice ag E.length cg]),by simp [upd,g],zn (za HBV) (za HD) (by decide) (dp_mk2 rfl ⟨aq,cq,ag,cg,rfl,za H2,za H3⟩)⟩
    | 8,ho =>
     obtain rfl:=Option.some.inj ho
     obtain ⟨aq,cq,ag,cg,g,h2,h3⟩:=dp_2 (hD 7 (hall ⟨7,.data⟩ (by simp) rfl)) rfl
     have H2:=hide h2
     have H3:=hide h3
     clear h2 h3
     clear hall hD hbel hcl
     rw [if_pos (by rfl)]
     unfold Oper.wp
     go_simp
     exact ⟨upd f 8 (.agg #[.int .i64 N,.slice aq L.length cq]),by simp [upd,g],zn (za HBV) (za HD) (by decide) (dp_mk3 rfl ⟨aq,cq,rfl,za H2⟩)⟩
    | 9,ho =>
     obtain rfl:=Option.some.inj ho
     obtain ⟨aq,cq,ag,cg,g,h2,h3⟩:=dp_2 (hD 7 (hall ⟨7,.data⟩ (by simp) rfl)) rfl
     have H2:=hide h2
     have H3:=hide h3
     clear h2 h3
     clear hall hD hbel hcl
     rw [if_pos (by rfl)]
     unfold Oper.wp
     go_simp
     exact ⟨upd f 9 (.slice ag E.length cg),by simp [upd,g],zn (za HBV) (za HD) (by decide) (dp_mk4 rfl ⟨ag,cg,rfl,za H3⟩)⟩
    | 10,ho =>
     obtain rfl:=Option.some.inj ho
     have hp:¬ x[11]? = some true:=by rw [zx hcl 12 10 11 (by kernel_rfl) hx (by simp) hxi]; simp
     have hS:=hbel.size
     clear hall hD hbel hcl
     rw [if_pos (by rfl)]
     unfold Oper.wp
     go_simp
     exact ⟨upd f 10 (.pointer (some ⟨V.heap.size,0,none⟩)),by simp [upd],zcr dp_grow (za HBV) (za HD) ((Below.refl _ _).alloc (Nat.le_refl _) _) (by decide) (dp_mk5 rfl hp hS)⟩
    | 11,ho =>
     obtain rfl:=Option.some.inj ho
     obtain ⟨aq,cq,g6,ho6⟩:=dp_3 (hD 8 (hall ⟨8,.data⟩ (by simp) rfl)) rfl
     obtain ⟨b0,g9,hSb,hlt0,hth,hbx,-⟩:=dp_5 (hD 10 (hall ⟨10,.data⟩ (by simp) rfl)) rfl
     have HSX:Hid (∀ j,j ≠ 11→x[j]? = some true→DP [.pointer (some ⟨w.heap.size + 1,1,none⟩),.agg #[.int .i64 n,.slice aq0 l.length cq0],.slice (some ⟨b,off,none⟩) cs.length cap,.int .i64 k,.pointer (some ⟨b,off + k * 8,none⟩),.agg #[.int .i64 c.k,.int .i64 c.s,.int .i64 c.t,.int .i64 c.l,.int .i64 c.q,.int .i64 c.i,.float .f64 c.p,.string c.g]] [(6,2),(7,2),(8,3),(9,4),(10,5),(11,9),(12,4)] wr.heap.size n N l L E False V j (f j)→DP [.pointer (some ⟨w.heap.size + 1,1,none⟩),.agg #[.int .i64 n,.slice aq0 l.length cq0],.slice (some ⟨b,off,none⟩) cs.length cap,.int .i64 k,.pointer (some ⟨b,off + k * 8,none⟩),.agg #[.int .i64 c.k,.int .i64 c.s,.int .i64 c.t,.int .i64 c.l,.int .i64 c.q,.int .i64 c.i,.float .f64 c.p,.string c.g]] [(6,2),(7,2),(8,3),(9,4),(10,5),(11,9),(12,4)] wr.heap.size n N l L E True (V.setCells b0 0 [.int .i64 N,.slice aq L.length cq]) j (f j)):=fun j hj hxj h=>dp_store hSb hth hlt0 hbx ho6 (fun hk=>by rw [look_only hk (i:=10) (by decide)]; exact g9) h
     have HBS:=hide (zm b0 hSb [.int .i64 N,.slice aq L.length cq] 0 _ hbel)
     obtain ⟨p0,x0,f0⟩:=zc hth (j:=0) (by omega)
     obtain ⟨p1,x1,f1⟩:=zc hth (j:=1) (by omega)
     clear hall hD hbel hcl hth hbx ho6
     rw [if_pos (by rfl)]
     unfold Oper.wp
     go_simp
     exact ⟨f,by simp [g6,g9],rg_write2 (za HBS) (za HD) hxi (za HSX) (dp_mk9 rfl)⟩
    | 12,ho =>
     obtain rfl:=Option.some.inj ho
     obtain ⟨ag,cg,g,h3⟩:=dp_4 (hD 9 (hall ⟨9,.data⟩ (by simp) rfl)) rfl
     have H3:=hide h3
     clear h3
     clear hall hD hbel hcl
     rw [if_pos (by rfl)]
     unfold Oper.wp
     go_simp
     exact ⟨upd f 12 (.slice ag E.length cg),by simp [upd,g],zn (za HBV) (za HD) (by decide) (dp_mk4 rfl ⟨ag,cg,rfl,za H3⟩)⟩
    | n + 13,ho=>simp at ho
   ·rintro x A V ⟨f,rfl,hbel,hD⟩ hx hrd
    have hallx:=zac hrd hx (by kernel_rfl)
    obtain ⟨ag,cg,e12,hge⟩:=dp_4 (hD 12 (hallx 12 (by simp))) rfl
    obtain ⟨bb,e10,hSb,hltb,-,hbxb,hst⟩:=dp_5 (hD 10 (hallx 10 (by simp))) rfl
    obtain ⟨aq,cq,hra,hro⟩:=hst (hallx 11 (by simp))
    simp only [e12,e10]
    have HLV:=hide (lg_below (za HG) hbel)
    have HOV:=hide (zH hro hsz)
    have HEV:=hide (zH hge hsz)
    have x0:V.cell? ⟨bb,0,none⟩ = some (.int .i64 N):=hra 0 _ rfl
    have x1:V.cell? ⟨bb,1,none⟩ = some (.slice aq L.length cq):=hra 1 _ rfl
    obtain ⟨y1,z1,q1⟩:=zc (za HLV).t (j:=1) (by omega)
    obtain ⟨y2,z2,q2⟩:=zc (za HLV).t (j:=2) (by omega)
    have m0:V.cell? ⟨w.heap.size + 1,0,none⟩ = some (.slice ga gs.length gc):=(za HLV).r 0 _ rfl
    clear e12 hge e10 hltb hbxb hst hra hro hD hallx hrd hx hbel
    generalize f 0 = v0
    generalize f 1 = v1
    generalize f 2 = v2
    generalize f 3 = v3
    generalize f 4 = v4
    generalize f 5 = v5
    generalize f 6 = v6
    generalize f 7 = v7
    generalize f 8 = v8
    generalize f 9 = v9
    rename_i KA haA
    refine haA _ _ ?_
    clear haA KA
    refine wp_seq_k fun K2 hK2=>?_
    have HK2:=hide hK2
    clear hK2
    go_wp2_with fail
    refine za HK2 _ _ ?_
    clear HK2 x0 x1 z1 q1 z2 q2 m0
    have HLB:=hide (lg_book (za HLV) N L (za HOV))
    have HEB:=hide (zt (zt (za HEV) (zj (za HEV) (za HLV).bx (by decide)) 1 (.int .i64 N)) (zj (za HEV) (za HLV).bx (by decide)) 2 (.slice aq L.length cq))
    clear HLV HEV HOV
    generalize (V.setCell ⟨w.heap.size + 1,1,none⟩ (.int .i64 N)).setCell ⟨w.heap.size + 1,2,none⟩ (.slice aq L.length cq) = V1 at HLB HEB ⊢
    have m0:V1.cell? ⟨w.heap.size + 1,0,none⟩ = some (.slice ga gs.length gc):=(za HLB).r 0 _ rfl
    refine wp_region_lit ?_
    refine wpList_step fun K3 hK3=>?_
    have HK3:=hide hK3
    clear hK3
    rw [if_pos (by rfl)]
    unfold Oper.wp
    go_simp
    refine za HK3 _ _ ?_
    clear HK3
    refine wpList_step fun K3 hK3=>?_
    have HK3:=hide hK3
    clear hK3
    rw [if_pos (by rfl)]
    unfold Oper.wp
    go_simp
    refine za HK3 _ _ ?_
    clear HK3
    refine wpList_step fun K3 hK3=>?_
    have HK3:=hide hK3
    clear hK3
    rw [if_pos (by rfl)]
    unfold Oper.wp
    go_simp
    refine za HK3 _ _ ?_
    clear HK3
    refine wpList_step fun K3 hK3=>?_
    have HK3:=hide hK3
    clear hK3
    rw [if_pos (by rfl)]
    unfold Oper.wp
    go_simp
    refine za HK3 _ _ ?_
    clear HK3
    have bA:Below V1.heap.size V1 (V1.alloc (Obj.cells #[.slice ag E.length cg] 36)):=(Below.refl _ _).alloc (Nat.le_refl _) _
    have HLC:=hide (lg_below (za HLB) bA)
    have HEC:=hide (zI (za HEB) bA)
    have hcs:(V1.alloc (Obj.cells #[.slice ag E.length cg] 36)).cell? ⟨V1.heap.size,0,none⟩ = some (.slice ag E.length cg):=zh V1 [.slice ag E.length cg] 36 0 _ rfl
    generalize V1.alloc (Obj.cells #[.slice ag E.length cg] 36) = V2 at HLC HEC hcs ⊢
    generalize V1.heap.size = vs at hcs ⊢
    clear bA HLB HEB m0
    refine wpList_step fun K3 hK3=>?_
    have HK3:=hide hK3
    clear hK3
    rw [if_pos (by rfl)]
    refine wp_append_own V2 (.tmp 28) (.tmp 30) 28 rfl (w.heap.size + 1 + 1) 36 i0 _ 1 24 Tryz.underlying28 hi0 hz0 hz1 hz2 rfl (by decide) (.slice ga gs.length gc) gs.length gs rfl (za HLC).g ⟨vs,0,none⟩ 1 1 [.slice ag E.length cg] rfl rfl (fun j u hu=>by match j,hu with | 0,hu=>cases hu; rw [Addr.add_mid]; exact hcs | j + 1,hu=>simp at hu) (by intro u hu; simp at hu; subst hu; rfl) (by have:=za HGS; unfold maxLen; omega) (by have:=za HGS; omega) (by have:=(za HLC).z; omega) ?_
    intro v' w' hown hgr _
    have HOW:Hid (GRow w' (w.heap.size + 1 + 1) v' (gs ++ [Value.slice ag E.length cg])):=by show w'.ownsRow _ _ _ _ (gs ++ [Value.slice ag E.length cg]).length _; rw [List.length_append]; exact hown
    obtain ⟨ga',gc',hv'⟩:=zV (za HOW)
    subst hv'
    have HLD:=hide (lg_group (za HLC) (za HEC) (za HOW) hgr)
    obtain ⟨y0,z0,q0⟩:=zc (zar (za HLC).t hgr (by have:=(za HLC).z; omega) (zj (za HLC).g (za HLC).bx (by decide))) (j:=0) (by omega)
    clear hown hgr HLC HEC hcs
    refine za HK3 _ _ ?_
    clear HK3
    refine wpList_step fun K3 hK3=>?_
    have HK3:=hide hK3
    clear hK3
    rw [if_pos (by rfl)]
    unfold Oper.wp
    go_simp
    refine za HK3 _ _ ?_
    clear HK3
    refine wpList_step fun K3 hK3=>?_
    have HK3:=hide hK3
    clear hK3
    rw [if_pos (by rfl)]
    unfold Oper.wp
    go_simp
    refine za HK3 _ _ ?_
    clear HK3
    have elen:(gs ++ [Value.slice ag E.length cg]).length = gs.length + 1:=by simp
    rw [elen] at HLD
    clear elen
    generalize w'.setCell ⟨w.heap.size + 1,0,none⟩ (.slice ga' (gs.length + 1) gc') = V3 at HLD ⊢
    clear z0 q0
    refine wpList_nil ?_
    go_wp2_with fail
    go_roundw
    case rel=>exact ⟨k + 1,by omega,by go_num,_,_,_,by rw [za HNX]; exact lg_tot _ (za HLD)⟩
    case measure=>simp [intOf]; omega
  ·have hlt':¬ (k:Int) < cs.length:=by omega
   rw [List.take_of_length_le (by omega)] at HG
   have HFW:=hide (run_few cs h200 cs.length (Nat.le_refl _))
   have HRI:=hide (run_inv cs h200)
   rw [List.take_of_length_le (Nat.le_refl _)] at HFW
   go_wp2_with fail
   refine za HK1 _ _ ?_
   clear HK1 hlt hlt'
   generalize runS cs = s at HG HF HFW HRI
   obtain ⟨n,l,gl,t⟩:=s
   simp only at HF HFW HRI
   obtain ⟨aq,cq,hv⟩:=zV (za HG).q
   simp only at hv
   subst hv
   obtain ⟨ga,gc,hgv⟩:=zV (za HG).g
   subst hgv
   have hgl:gs.length = gl.length:=(za HG).gl
   have HGD:=hide (grs_rd (za HG).g hgl (za HG).ge (by have:=(za HRI).2.2.2; omega) (fun es hes=>Nat.le_trans (za HFW es hes) (by omega)))
   have HOD:Hid (RdR Od.vs 6 wr (.slice aq l.length cq) l):=zM (za HG).q (by have:=(za HRI).1.good.len; omega)
   have HGL:=hide hgl
   clear hgl
   have HTO:=hide (l04Totals_any _ gl n _ l wr (za HGD) (za HOD))
   generalize totM gl l = T at HTO HF
   obtain ⟨tgr,tac,trf,ttr,tvo,tno,tli,tle⟩:=T
   simp only at HTO
   have m0:wr.cell? ⟨w.heap.size + 1,0,none⟩ = some (.slice ga gs.length gc):=(za HG).r 0 _ rfl
   have m1:wr.cell? ⟨w.heap.size + 1,1,none⟩ = some (.int .i64 n):=(za HG).r 1 _ rfl
   have m2:wr.cell? ⟨w.heap.size + 1,2,none⟩ = some (.slice aq l.length cq):=(za HG).r 2 _ rfl
   refine wp_seq_k fun K hK=>?_
   have HK1:=hide hK
   clear hK
   go_wp2_with fail
   refine (za HTO).mono ?_
   rintro e V2 ⟨rfl,hb2⟩
   clear m0 m1 m2
   have HG2:=hide (lg_below (za HG) hb2)
   clear hb2
   have hz2:=(za HG2).z
   obtain ⟨y3,z3,q3⟩:=zc (za HG2).t (j:=3) (by omega)
   obtain ⟨y4,z4,q4⟩:=zc (za HG2).t (j:=4) (by omega)
   obtain ⟨y5,z5,q5⟩:=zc (za HG2).t (j:=5) (by omega)
   obtain ⟨y6,z6,q6⟩:=zc (za HG2).t (j:=6) (by omega)
   obtain ⟨y7,z7,q7⟩:=zc (za HG2).t (j:=7) (by omega)
   obtain ⟨y8,z8,q8⟩:=zc (za HG2).t (j:=8) (by omega)
   obtain ⟨y9,z9,q9⟩:=zc (za HG2).t (j:=9) (by omega)
   obtain ⟨y10,z10,q10⟩:=zc (za HG2).t (j:=10) (by omega)
   go_wp2_with fail
   refine za HK1 _ _ ?_
   clear HK1 z3 q3 z4 q4 z5 q5 z6 q6 z7 q7 z8 q8 z9 q9 z10 q10
   change Code.wp _ _ _ _ (V2.setCells (w.heap.size + 1) 3 (Tot.mk tgr tac trf ttr tvo tno tli tle).vs)
   have HTH:Hid (V2.there (w.heap.size + 1) 3 8):=fun j hj=>by
    have:=(za HG2).t (3 + j) (by omega)
    rwa [Nat.zero_add] at this
   have HC3:=hide (World.rangeAt_setCells_same V2 (w.heap.size + 1) 3 (Tot.mk tgr tac trf ttr tvo tno tli tle).vs (fun j hj=>za HTH j (by simpa [Tot.vs] using hj)))
   have HC0:Hid (∀ j u,j < 3→V2.cell? ⟨w.heap.size + 1,j,none⟩ = some u→(V2.setCells (w.heap.size + 1) 3 (Tot.mk tgr tac trf ttr tvo tno tli tle).vs).cell? ⟨w.heap.size + 1,j,none⟩ = some u):=fun j u hj hu=>(World.cell?_setCells_out (w.heap.size + 1) _ 3 V2 ⟨w.heap.size + 1,j,none⟩ (fun _ _=>.inl hj)).trans hu
   have HTV:Hid (World.there (V2.setCells (w.heap.size + 1) 3 (Tot.mk tgr tac trf ttr tvo tno tli tle).vs) w.heap.size 0 11):=there_blk (za HG2).o (zaw (w.heap.size + 1) w.heap.size (by omega) _ 3 V2)
   have HBV:=hide (zm (w.heap.size + 1) (by omega) (Tot.mk tgr tac trf ttr tvo tno tli tle).vs 3 V2 (za HG2).b)
   have HROW:Hid (∀ {e sz m:Nat} {v:Value} {xs:List Value},V2.ownsRow (w.heap.size + 1 + 1) e sz v m xs→48 ≠ e→World.ownsRow ((V2.setCells (w.heap.size + 1) 3 (Tot.mk tgr tac trf ttr tvo tno tli tle).vs).setCells w.heap.size 0 [.slice ga gs.length gc,.int .i64 n,.slice aq l.length cq,.int .i64 tgr,.int .i64 tac,.int .i64 trf,.int .i64 ttr,.int .i64 tvo,.int .i64 tno,.int .i64 tli,.int .i64 tle]) w.heap.size e sz v m xs):=fun {e sz m v xs} h hne'=>row_end h (zj h (za HG2).bx hne') (Below.refl _ _) (by omega) (by omega) _ _ _ _
   generalize V2.setCells (w.heap.size + 1) 3 (Tot.mk tgr tac trf ttr tvo tno tli tle).vs = V at HC3 HC0 HTV HBV HROW ⊢
   have m0:=za HC0 0 _ (by omega) ((za HG2).r 0 _ rfl)
   have m1:=za HC0 1 _ (by omega) ((za HG2).r 1 _ rfl)
   have m2:=za HC0 2 _ (by omega) ((za HG2).r 2 _ rfl)
   simp only at m1
   have m3:V.cell? ⟨w.heap.size + 1,3,none⟩ = some (.int .i64 tgr):=za HC3 0 _ rfl
   have m4:V.cell? ⟨w.heap.size + 1,4,none⟩ = some (.int .i64 tac):=za HC3 1 _ rfl
   have m5:V.cell? ⟨w.heap.size + 1,5,none⟩ = some (.int .i64 trf):=za HC3 2 _ rfl
   have m6:V.cell? ⟨w.heap.size + 1,6,none⟩ = some (.int .i64 ttr):=za HC3 3 _ rfl
   have m7:V.cell? ⟨w.heap.size + 1,7,none⟩ = some (.int .i64 tvo):=za HC3 4 _ rfl
   have m8:V.cell? ⟨w.heap.size + 1,8,none⟩ = some (.int .i64 tno):=za HC3 5 _ rfl
   have m9:V.cell? ⟨w.heap.size + 1,9,none⟩ = some (.int .i64 tli):=za HC3 6 _ rfl
   have m10:V.cell? ⟨w.heap.size + 1,10,none⟩ = some (.int .i64 tle):=za HC3 7 _ rfl
   obtain ⟨y0,z0,q0⟩:=zc (za HTV) (j:=0) (by omega)
   obtain ⟨y1,z1,q1⟩:=zc (za HTV) (j:=1) (by omega)
   obtain ⟨y2,z2,q2⟩:=zc (za HTV) (j:=2) (by omega)
   obtain ⟨y3,z3,q3⟩:=zc (za HTV) (j:=3) (by omega)
   obtain ⟨y4,z4,q4⟩:=zc (za HTV) (j:=4) (by omega)
   obtain ⟨y5,z5,q5⟩:=zc (za HTV) (j:=5) (by omega)
   obtain ⟨y6,z6,q6⟩:=zc (za HTV) (j:=6) (by omega)
   obtain ⟨y7,z7,q7⟩:=zc (za HTV) (j:=7) (by omega)
   obtain ⟨y8,z8,q8⟩:=zc (za HTV) (j:=8) (by omega)
   obtain ⟨y9,z9,q9⟩:=zc (za HTV) (j:=9) (by omega)
   obtain ⟨y10,z10,q10⟩:=zc (za HTV) (j:=10) (by omega)
   have HR8:=hide (World.rangeAt_setCells_same V w.heap.size 0 [.slice ga gs.length gc,.int .i64 n,.slice aq l.length cq,.int .i64 tgr,.int .i64 tac,.int .i64 trf,.int .i64 ttr,.int .i64 tvo,.int .i64 tno,.int .i64 tli,.int .i64 tle] (fun j hj=>za HTV j hj))
   have HB8:=hide (zm w.heap.size (Nat.le_refl _) [.slice ga gs.length gc,.int .i64 n,.slice aq l.length cq,.int .i64 tgr,.int .i64 tac,.int .i64 trf,.int .i64 ttr,.int .i64 tvo,.int .i64 tno,.int .i64 tli,.int .i64 tle] 0 V (za HBV))
   have HGG:Hid (GRs (V.setCells w.heap.size 0 [.slice ga gs.length gc,.int .i64 n,.slice aq l.length cq,.int .i64 tgr,.int .i64 tac,.int .i64 trf,.int .i64 ttr,.int .i64 tvo,.int .i64 tno,.int .i64 tli,.int .i64 tle]) w.heap.size (.slice ga gs.length gc) gl):=⟨gs,za HROW (za HG2).g (by decide),za HGL,fun i g es hg hes=>za HROW ((za HG2).ge i g es hg hes) (by decide)⟩
   have HO:Hid (ORow (V.setCells w.heap.size 0 [.slice ga gs.length gc,.int .i64 n,.slice aq l.length cq,.int .i64 tgr,.int .i64 tac,.int .i64 trf,.int .i64 ttr,.int .i64 tvo,.int .i64 tno,.int .i64 tli,.int .i64 tle]) w.heap.size (.slice aq l.length cq) l):=za HROW (za HG2).q (by decide)
   clear HROW
   go_wp2_with fail
   change bodyPost _ _ _ _ _ (V.setCells w.heap.size 0 [.slice ga gs.length gc,.int .i64 n,.slice aq l.length cq,.int .i64 tgr,.int .i64 tac,.int .i64 trf,.int .i64 ttr,.int .i64 tvo,.int .i64 tno,.int .i64 tli,.int .i64 tle])
   generalize V.setCells w.heap.size 0 [.slice ga gs.length gc,.int .i64 n,.slice aq l.length cq,.int .i64 tgr,.int .i64 tac,.int .i64 trf,.int .i64 ttr,.int .i64 tvo,.int .i64 tno,.int .i64 tli,.int .i64 tle] = WE at HR8 HB8 HGG HO ⊢
   obtain rfl:=za HF
   have d0:WE.cell? ⟨w.heap.size,0,none⟩ = some (.slice ga gs.length gc):=za HR8 0 _ rfl
   have d1:WE.cell? ⟨w.heap.size,1,none⟩ = some (.int .i64 n):=za HR8 1 _ rfl
   have d2:WE.cell? ⟨w.heap.size,2,none⟩ = some (.slice aq l.length cq):=za HR8 2 _ rfl
   have d3:WE.cell? ⟨w.heap.size,3,none⟩ = some (.int .i64 tgr):=za HR8 3 _ rfl
   have d4:WE.cell? ⟨w.heap.size,4,none⟩ = some (.int .i64 tac):=za HR8 4 _ rfl
   have d5:WE.cell? ⟨w.heap.size,5,none⟩ = some (.int .i64 trf):=za HR8 5 _ rfl
   have d6:WE.cell? ⟨w.heap.size,6,none⟩ = some (.int .i64 ttr):=za HR8 6 _ rfl
   have d7:WE.cell? ⟨w.heap.size,7,none⟩ = some (.int .i64 tvo):=za HR8 7 _ rfl
   have d8:WE.cell? ⟨w.heap.size,8,none⟩ = some (.int .i64 tno):=za HR8 8 _ rfl
   have d9:WE.cell? ⟨w.heap.size,9,none⟩ = some (.int .i64 tli):=za HR8 9 _ rfl
   have d10:WE.cell? ⟨w.heap.size,10,none⟩ = some (.int .i64 tle):=za HR8 10 _ rfl
   refine bodyPost_ret (by simp [results,Tryz.results12,go_sem,d0,d1,d2,d3,d4,d5,d6,d7,d8,d9,d10]; try rfl) rfl ?_
   exact ⟨_,_,rfl,za HGG,za HO,za HB8⟩
end Go.Proofs.YtopjoogdpjaocaaGreat
