/-
  What RunScript answers held against another answer, marked, and looked at again: walked.
-/
import Derived.Test.YtdfihaabhichdaaGreatRj03
import Derived.Test.YtdfihaabhichdaaGreatRj04
import Derived.Test.YtdfihaabhichdaaGreatRj33
import Derived.Test.YtdfihaabhichdaaGreatRj35
namespace Go.Proofs.YtdfihaabhichdaaGreat
open Go.RowKit
set_option linter.unusedVariables false

theorem bx2_belowR {w W V:World} {r vs:List Value} (h:Bx2 w W r vs) (hb:Below W.heap.size W V):Bx2 w V r vs:=by
  have hz:=h.z
  exact ⟨zD h.o hb (by omega),zD h.k hb (by omega),h.b.trans (hb.mono h.b.size),Nat.le_trans hz hb.size⟩
set_option maxRecDepth 100000 in
set_option maxHeartbeats 800000 in
theorem eqGs_same (va vb:Value) (gl:List (List Ev)) (w:World) (ha:RdG w va gl) (hb:RdG w vb gl) :
    Calls Tryz.prog 32 #[va,vb] w fun e w'=>e = .returned (.bool true)∧Below w.heap.size w w':=by
  obtain ⟨aa,ca,rfl,hl,hca⟩:=ha
  obtain ⟨ab,cb,rfl,_,hcb⟩:=hb
  have hcell:∀ (k:Nat) (es:List Ev),gl[k]? = some es→∃ b off b' off' ga gc ga' gc',aa = some ⟨b,off,none⟩∧ab = some ⟨b',off',none⟩∧b < w.heap.size∧b' < w.heap.size∧w.cell? ⟨b,off + k,none⟩ = some (.slice ga es.length gc)∧w.cell? ⟨b',off' + k,none⟩ = some (.slice ga' es.length gc')∧RdR Ev.vs 14 w (.slice ga es.length gc) es∧RdR Ev.vs 14 w (.slice ga' es.length gc') es:=by
    intro k es hk
    have hne:gl ≠ []:=by intro h; rw [h] at hk; simp at hk
    obtain ⟨b,off,h1,h2,h3⟩:=hca hne
    obtain ⟨b',off',h1',h2',h3'⟩:=hcb hne
    obtain ⟨g,h4,h5⟩:=h3 k es hk
    obtain ⟨g',h4',h5'⟩:=h3' k es hk
    obtain ⟨ga,gc,rfl,_⟩:=id h5
    obtain ⟨ga',gc',rfl,_⟩:=id h5'
    exact ⟨b,off,b',off',ga,gc,ga',gc',h1,h1',h2,h2',h4,h4',h5,h5'⟩
  have HC:=hide hcell
  clear hcell hca hcb
  go_enter Tryz.func32,Tryz.ntmps32
  go_wp2_with fail
  go_loopw [5] (fun i wr=>∃ k:Nat,k ≤ gl.length∧i = .int .i64 k∧Below w.heap.size w wr) (fun i _=>gl.length - (intOf i).toNat)
  case atStart=>exact ⟨0,Nat.zero_le _,rfl,Below.refl _ _⟩
  case round =>
    obtain ⟨k,hk,rfl,hbel⟩:=hrel
    have HB:=hide hbel
    clear hbel
    by_cases hlt:k < gl.length
    · obtain ⟨es,hkc⟩:∃ es,gl[k]? = some es:=⟨_,List.getElem?_eq_getElem hlt⟩
      obtain ⟨b,off,b',off',ga,gc,ga',gc',rfl,rfl,hb,hb',hcl,hcl',hr,hr'⟩:=za HC k es hkc
      have g0:=((za HB).cell (p:=⟨b,off + k,none⟩) hb).trans hcl
      have g1:=((za HB).cell (p:=⟨b',off' + k,none⟩) hb').trans hcl'
      have HRA:=hide (zi hr (za HB).drew (Nat.le_refl _))
      have HRB:=hide (zi hr' (za HB).drew (Nat.le_refl _))
      have hlt':(k:Int) < gl.length:=by omega
      clear hkc hcl hcl' hb hb' hr hr'
      go_wp2_with fail
      go_region_with (go_at_call 13; refine (eqEventS_same _ _ es _ (za HRA) (za HRB)).mono ?_; rintro e w2 ⟨rfl,hb2⟩; have HB2:=hide ((za HB).drew.trans (hb2.mono (za HB).drew.size)); clear hb2)
      go_wp2_with fail
      go_roundw
      case rel=>exact ⟨k + 1,by omega,by go_num,za HB2⟩
      case measure=>simp [intOf]; omega
      all_goals exact ⟨⟨k + 1,by omega,by go_num,za HB2⟩,by simp [intOf]; omega⟩
    · go_wp2_with fail
      go_ret
      exact ⟨rfl,za HB⟩
set_option maxRecDepth 100000 in
theorem eqTot_same (t:Tot) (w:World):Calls Tryz.prog 31 #[.agg #[.int .i64 t.gr,.int .i64 t.ac,.int .i64 t.rf,.int .i64 t.tr,.int .i64 t.vo,.int .i64 t.no,.int .i64 t.li,.int .i64 t.le],.agg #[.int .i64 t.gr,.int .i64 t.ac,.int .i64 t.rf,.int .i64 t.tr,.int .i64 t.vo,.int .i64 t.no,.int .i64 t.li,.int .i64 t.le]] w fun e w'=>e = .returned (.bool true)∧Below w.heap.size w w':=by
  obtain ⟨a,b,c,d,e,f,g,h⟩:=t
  simp only
  go_enter Tryz.func31,Tryz.ntmps31
  go_wp2_with fail
  go_ret
  exact ⟨rfl,by go_grown⟩
set_option maxRecDepth 100000 in
set_option maxHeartbeats 1600000 in
theorem eqRun_same (ga gb qa qb:Value) (n:Int) (gl:List (List Ev)) (l:List Od) (t:Tot) (w:World) (h1:RdG w ga gl) (h2:RdG w gb gl) (h3:RdR Od.vs 6 w qa l) (h4:RdR Od.vs 6 w qb l) :
    Calls Tryz.prog 22 #[.agg #[ga,.int .i64 n,qa,.int .i64 t.gr,.int .i64 t.ac,.int .i64 t.rf,.int .i64 t.tr,.int .i64 t.vo,.int .i64 t.no,.int .i64 t.li,.int .i64 t.le],.agg #[gb,.int .i64 n,qb,.int .i64 t.gr,.int .i64 t.ac,.int .i64 t.rf,.int .i64 t.tr,.int .i64 t.vo,.int .i64 t.no,.int .i64 t.li,.int .i64 t.le]] w fun e w'=>e = .returned (.bool true)∧Below w.heap.size w w':=by
  have H1:=hide h1
  have H2:=hide h2
  have H3:=hide h3
  have H4:=hide h4
  obtain ⟨aa,ca,rfl,-,-⟩:=h1
  obtain ⟨ab,cb,rfl,-,-⟩:=h2
  obtain ⟨qa,da,rfl,-,-⟩:=h3
  obtain ⟨qb,db,rfl,-,-⟩:=h4
  have HM:=hide (bx2_made w [.slice aa gl.length ca,.int .i64 n,.slice qa l.length da,.int .i64 t.gr,.int .i64 t.ac,.int .i64 t.rf,.int .i64 t.tr,.int .i64 t.vo,.int .i64 t.no,.int .i64 t.li,.int .i64 t.le] [.slice ab gl.length cb,.int .i64 n,.slice qb l.length db,.int .i64 t.gr,.int .i64 t.ac,.int .i64 t.rf,.int .i64 t.tr,.int .i64 t.vo,.int .i64 t.no,.int .i64 t.li,.int .i64 t.le] 50 50)
  go_enter Tryz.func22,Tryz.ntmps22
  go_wp2_with fail
  change Calls _ _ _ ((w.alloc (Obj.cells #[.slice aa gl.length ca,.int .i64 n,.slice qa l.length da,.int .i64 t.gr,.int .i64 t.ac,.int .i64 t.rf,.int .i64 t.tr,.int .i64 t.vo,.int .i64 t.no,.int .i64 t.li,.int .i64 t.le] 50)).alloc (Obj.cells #[.slice ab gl.length cb,.int .i64 n,.slice qb l.length db,.int .i64 t.gr,.int .i64 t.ac,.int .i64 t.rf,.int .i64 t.tr,.int .i64 t.vo,.int .i64 t.no,.int .i64 t.li,.int .i64 t.le] 50)) _
  generalize ((w.alloc (Obj.cells #[.slice aa gl.length ca,.int .i64 n,.slice qa l.length da,.int .i64 t.gr,.int .i64 t.ac,.int .i64 t.rf,.int .i64 t.tr,.int .i64 t.vo,.int .i64 t.no,.int .i64 t.li,.int .i64 t.le] 50)).alloc (Obj.cells #[.slice ab gl.length cb,.int .i64 n,.slice qb l.length db,.int .i64 t.gr,.int .i64 t.ac,.int .i64 t.rf,.int .i64 t.tr,.int .i64 t.vo,.int .i64 t.no,.int .i64 t.li,.int .i64 t.le] 50)) = X at HM ⊢
  have HM:Hid (Bx2 w X [.slice aa gl.length ca,.int .i64 n,.slice qa l.length da,.int .i64 t.gr,.int .i64 t.ac,.int .i64 t.rf,.int .i64 t.tr,.int .i64 t.vo,.int .i64 t.no,.int .i64 t.li,.int .i64 t.le] [.slice ab gl.length cb,.int .i64 n,.slice qb l.length db,.int .i64 t.gr,.int .i64 t.ac,.int .i64 t.rf,.int .i64 t.tr,.int .i64 t.vo,.int .i64 t.no,.int .i64 t.li,.int .i64 t.le]):=za HM
  refine (eqGs_same _ _ gl X (zbt (za H1) (za HM).b (Nat.le_refl _)) (zbt (za H2) (za HM).b (Nat.le_refl _))).mono ?_
  rintro e w1 ⟨rfl,hb⟩
  have HB1:=hide (bx2_belowR (za HM) hb)
  clear hb HM
  have c01:w1.cell? ⟨w.heap.size,1,none⟩ = some (.int .i64 n):=zh (za HB1).o 1 rfl
  have c02:w1.cell? ⟨w.heap.size,2,none⟩ = some (.slice qa l.length da):=zh (za HB1).o 2 rfl
  have c11:w1.cell? ⟨w.heap.size + 1,1,none⟩ = some (.int .i64 n):=zh (za HB1).k 1 rfl
  have c12:w1.cell? ⟨w.heap.size + 1,2,none⟩ = some (.slice qb l.length db):=zh (za HB1).k 2 rfl
  go_wp2_with fail
  refine (eqBook_same n _ _ l w1 (zi (za H3) (za HB1).b (Nat.le_refl _)) (zi (za H4) (za HB1).b (Nat.le_refl _))).mono ?_
  rintro e w2 ⟨rfl,hb⟩
  have HB2:=hide (bx2_belowR (za HB1) hb)
  clear hb HB1 c01 c02 c11 c12
  have d03:w2.cell? ⟨w.heap.size,3,none⟩ = some (.int .i64 t.gr):=zh (za HB2).o 3 rfl
  have d04:w2.cell? ⟨w.heap.size,4,none⟩ = some (.int .i64 t.ac):=zh (za HB2).o 4 rfl
  have d05:w2.cell? ⟨w.heap.size,5,none⟩ = some (.int .i64 t.rf):=zh (za HB2).o 5 rfl
  have d06:w2.cell? ⟨w.heap.size,6,none⟩ = some (.int .i64 t.tr):=zh (za HB2).o 6 rfl
  have d07:w2.cell? ⟨w.heap.size,7,none⟩ = some (.int .i64 t.vo):=zh (za HB2).o 7 rfl
  have d08:w2.cell? ⟨w.heap.size,8,none⟩ = some (.int .i64 t.no):=zh (za HB2).o 8 rfl
  have d09:w2.cell? ⟨w.heap.size,9,none⟩ = some (.int .i64 t.li):=zh (za HB2).o 9 rfl
  have d010:w2.cell? ⟨w.heap.size,10,none⟩ = some (.int .i64 t.le):=zh (za HB2).o 10 rfl
  have d13:w2.cell? ⟨w.heap.size + 1,3,none⟩ = some (.int .i64 t.gr):=zh (za HB2).k 3 rfl
  have d14:w2.cell? ⟨w.heap.size + 1,4,none⟩ = some (.int .i64 t.ac):=zh (za HB2).k 4 rfl
  have d15:w2.cell? ⟨w.heap.size + 1,5,none⟩ = some (.int .i64 t.rf):=zh (za HB2).k 5 rfl
  have d16:w2.cell? ⟨w.heap.size + 1,6,none⟩ = some (.int .i64 t.tr):=zh (za HB2).k 6 rfl
  have d17:w2.cell? ⟨w.heap.size + 1,7,none⟩ = some (.int .i64 t.vo):=zh (za HB2).k 7 rfl
  have d18:w2.cell? ⟨w.heap.size + 1,8,none⟩ = some (.int .i64 t.no):=zh (za HB2).k 8 rfl
  have d19:w2.cell? ⟨w.heap.size + 1,9,none⟩ = some (.int .i64 t.li):=zh (za HB2).k 9 rfl
  have d110:w2.cell? ⟨w.heap.size + 1,10,none⟩ = some (.int .i64 t.le):=zh (za HB2).k 10 rfl
  go_wp2_with fail
  refine (eqTot_same t w2).mono ?_
  rintro e w3 ⟨rfl,hb⟩
  have HB3:=hide (bx2_belowR (za HB2) hb)
  clear hb HB2 d03 d04 d05 d06 d07 d08 d09 d010 d13 d14 d15 d16 d17 d18 d19 d110
  go_wp2_with fail
  go_ret
  exact ⟨rfl,(za HB3).b⟩
theorem markOk_own {B:Nat} (v:Value) (l:List Od) (k:Nat) (w:World) (h:OwnR Od.vs 6 B w v l) (hl:l.length ≤ 2097152) (hk0:0 < k) (hk1:k ≤ 1000000000) :
    Calls Tryz.prog 42 #[v,.int .i64 k] w fun e w'=>e = .returned (.int .i64 ((k + 6 * l.length:Nat):Int))∧OwnR Od.vs 6 B w' v (zaz k l.length) ∧
      ∃ G,w.grownBy w' G∧∀ g,G = some g→v.ownBlock = some g∧B ≤ g∧l ≠ []:=by
  obtain ⟨a,cap,rfl,hlen,h⟩:=h
  by_cases hne:l = []
  · subst hne
    refine (markOrderS_nil a cap k w).mono ?_
    rintro e w' ⟨rfl,rfl⟩
    exact ⟨rfl,⟨a,cap,rfl,by simp [zaz],fun h=>absurd rfl h⟩,none,World.grownBy.refl _ _,fun g hg=>by cases hg⟩
  · obtain ⟨g,rfl,h0,h1,h2,h3⟩:=h hne
    refine (markOrderS_any g l.length cap k w hl hk0 hk1 h1 h3).mono ?_
    rintro e w' ⟨rfl,m1,m2,m3,m4,m5⟩
    refine ⟨rfl,⟨_,cap,by rw [zax],by rw [zax]; exact hlen,fun _=>⟨g,rfl,h0,m5,m1,by rw [zax]; exact m2⟩⟩,some g,m3,fun g' hg=>?_⟩
    obtain rfl:=Option.some.inj hg
    exact ⟨rfl,h0,hne⟩
theorem markBookK {B:Nat} (n:Int) (v:Value) (l:List Od) (k:Nat) (w:World) (h:OwnR Od.vs 6 B w v l) (hl:l.length ≤ 2097152) (hk0:0 < k) (hk1:k ≤ 1000000000) :
    Calls Tryz.prog 14 #[.agg #[.int .i64 n,v],.int .i64 k] w fun e w'=>e = .returned (.int .i64 ((k + 6 * l.length:Nat):Int))∧OwnR Od.vs 6 B w' v (zaz k l.length) ∧
      ∃ G,w.grownBy w' G∧∀ g,G = some g→v.ownBlock = some g∧B ≤ g∧l ≠ []:=by
  have H:=hide h
  obtain ⟨a,cap,rfl,_,_⟩:=h
  have HO:Hid (OwnR Od.vs 6 B (w.alloc (Obj.cells #[.int .i64 n,.slice a l.length cap] 32)) (.slice a l.length cap) l):=zao (za H) ((Below.refl _ _).alloc (Nat.le_refl _) _) (Nat.le_refl _)
  go_enter Tryz.func14,Tryz.ntmps14
  go_wp2_with fail
  refine (markOk_own _ l k _ (za HO) hl hk0 hk1).mono ?_
  rintro e w1 ⟨rfl,ho,G,hgr,hG⟩
  have HG:Hid (w.grownBy w1 G∧∀ g,G = some g→(Value.slice a l.length cap).ownBlock = some g∧B ≤ g∧l ≠ []):=⟨(World.grownBy_alloc w _ G).trans hgr,hG⟩
  have HM:=hide ho
  clear hgr hG ho
  go_wp2_with fail
  go_ret
  exact ⟨rfl,za HM,G,(za HG).1,(za HG).2⟩
theorem gow_grown {W W':World} {B:Nat} {a:Option Addr} {gs:List Value} {gl:List (List Ev)} {G:Option Nat} (h:GO W B a gs gl) (hgr:W.grownBy W' G) (h1:∀ g ∈ gs,∀ b,G = some b→g.ownBlock ≠ some b) (h2:∀ b,G = some b→∀ gb,a = some ⟨gb,0,none⟩→gb ≠ b):GO W' B a gs gl:=by
  refine ⟨h.len,fun i x hx=>?_,fun i x xs hx hxs=>?_,h.apt,h.out,fun g hg b e=>⟨(h.lt g hg b e).1,Nat.lt_of_lt_of_le (h.lt g hg b e).2 hgr.size⟩,fun gb e=>⟨(h.lo gb e).1,Nat.lt_of_lt_of_le (h.lo gb e).2 hgr.size⟩⟩
  · obtain ⟨gb,e1,e2,e3⟩:=h.cells i x hx
    exact ⟨gb,e1,Nat.lt_of_lt_of_le e2 hgr.size,(World.cell?_of_block (a:=⟨gb,0 + i,none⟩) (hgr.block gb e2 (fun e=>h2 gb e.symm gb e1 rfl))).trans e3⟩
  · refine ownR_grown (h.each i x xs hx hxs) hgr (fun hne e=>?_)
    obtain ⟨b,hb,_,_⟩:=ownR_lt (h.each i x xs hx hxs) hne
    rw [hb] at e
    exact h1 x (List.mem_of_getElem? hx) b e.symm hb
theorem kg_more {gs:List Value} {v:Value} {w w':World} (h:KG gs w w'):KG (v :: gs) w w':=⟨h.os,h.tape,h.output,h.size,fun k hk hn=>h.block k hk (fun g hg=>hn g (List.mem_cons_of_mem _ hg))⟩
theorem kg_after {gs:List Value} {w0 w w':World} (hg:w0.grownBy w none) (h:KG gs w w'):KG gs w0 w':=⟨h.os.trans hg.os,h.tape.trans hg.tape,h.output.trans hg.output,Nat.le_trans hg.size h.size,fun k hk hn=>(h.block k (Nat.lt_of_lt_of_le hk hg.size) hn).trans (hg.block k hk (by simp))⟩
set_option maxRecDepth 100000 in
set_option maxHeartbeats 1600000 in
theorem markRun_any {B:Nat} (aa:Option Addr) (ca:Nat) (gs:List Value) (gl:List (List Ev)) (n:Int) (v:Value) (l:List Od) (t:Tot) (w:World) (h:GO w B aa gs gl) (ho:OwnR Od.vs 6 B w v l) (hn:gl.length ≤ 200) (he:∀ es ∈ gl,es.length ≤ 100) (hl:l.length ≤ 1000)
    (h1:∀ g ∈ gs,∀ b,g.ownBlock = some b→v.ownBlock ≠ some b) (h2:∀ gb,aa = some ⟨gb,0,none⟩→v.ownBlock ≠ some gb) :
    Calls Tryz.prog 25 #[.agg #[.slice aa gs.length ca,.int .i64 n,v,.int .i64 t.gr,.int .i64 t.ac,.int .i64 t.rf,.int .i64 t.tr,.int .i64 t.vo,.int .i64 t.no,.int .i64 t.li,.int .i64 t.le],.int .i64 1] w fun e w'=>e = .returned (.int .i64 ((1 + 14 * evN gl + 6 * l.length:Nat):Int))∧GO w' B aa gs (mgL 1 gl)∧OwnR Od.vs 6 B w' v (zaz (1 + 14 * evN gl) l.length)∧KG (v :: gs) w w':=by
  have HG:=hide h
  have HO:=hide ho
  have HE:=hide he
  have HA1:=hide h1
  have HA2:=hide h2
  have hev:evN gl ≤ 20000:=by have:=zbJ he hn gl.length; rwa [List.take_of_length_le (Nat.le_refl _)] at this
  obtain ⟨qa,da,rfl,-,-⟩:=ho
  have HX:=hide (bx_made w [.slice aa gs.length ca,.int .i64 n,.slice qa l.length da,.int .i64 t.gr,.int .i64 t.ac,.int .i64 t.rf,.int .i64 t.tr,.int .i64 t.vo,.int .i64 t.no,.int .i64 t.li,.int .i64 t.le] 50)
  have HB0:=hide ((Below.refl w.heap.size w).alloc (Nat.le_refl _) (Obj.cells ([.slice aa gs.length ca,.int .i64 n,.slice qa l.length da,.int .i64 t.gr,.int .i64 t.ac,.int .i64 t.rf,.int .i64 t.tr,.int .i64 t.vo,.int .i64 t.no,.int .i64 t.li,.int .i64 t.le]:List Value).toArray 50))
  clear h he h1 h2
  go_enter Tryz.func25,Tryz.ntmps25
  go_wp2_with fail
  change Calls _ _ _ (w.alloc (Obj.cells ([.slice aa gs.length ca,.int .i64 n,.slice qa l.length da,.int .i64 t.gr,.int .i64 t.ac,.int .i64 t.rf,.int .i64 t.tr,.int .i64 t.vo,.int .i64 t.no,.int .i64 t.li,.int .i64 t.le]:List Value).toArray 50)) _
  have hXs:(w.alloc (Obj.cells ([.slice aa gs.length ca,.int .i64 n,.slice qa l.length da,.int .i64 t.gr,.int .i64 t.ac,.int .i64 t.rf,.int .i64 t.tr,.int .i64 t.vo,.int .i64 t.no,.int .i64 t.li,.int .i64 t.le]:List Value).toArray 50)).heap.size = w.heap.size + 1:=by simp
  have HXS:=hide hXs
  clear hXs
  generalize (w.alloc (Obj.cells ([.slice aa gs.length ca,.int .i64 n,.slice qa l.length da,.int .i64 t.gr,.int .i64 t.ac,.int .i64 t.rf,.int .i64 t.tr,.int .i64 t.vo,.int .i64 t.no,.int .i64 t.li,.int .i64 t.le]:List Value).toArray 50)) = X at HX HB0 HXS ⊢
  have HGX:=hide (go_below (za HG) (za HB0) (Nat.le_refl _))
  refine (markGs_any aa ca gs gl 1 X (za HGX) hn (za HE) (by omega) (by omega)).mono ?_
  rintro e w1 ⟨rfl,hg1,hk1⟩
  have HG1:=hide hg1
  have HK1:=hide hk1
  have HX1:=hide (bx_blk (za HX) (hk1.block w.heap.size (by rw [za HXS]; omega) (fun g hg e=>by have:=((za HG).lt g hg _ e).2; omega)))
  have HO1:Hid (OwnR Od.vs 6 B w1 (.slice qa l.length da) l):=by
    obtain ⟨a',c',e',hl',hr'⟩:=zao (za HO) (za HB0) (Nat.le_refl _)
    refine ⟨a',c',e',hl',fun hne=>?_⟩
    obtain ⟨g,r1,r2,r3,r4,r5⟩:=hr' hne
    have hblk:w1.heap[g]? = X.heap[g]?:=hk1.block g r3 (fun x hx e=>za HA1 x hx g e (by rw [e',r1]; rfl))
    exact ⟨g,r1,r2,Nat.lt_of_lt_of_le r3 hk1.size,fun i c hi j u hu=>(World.cell?_of_block (a:=⟨g,0 + i * 6 + j,none⟩) hblk).trans (r4 i c hi j u hu),fun j hj=>⟨by rw [World.cell?_of_block (a:=⟨g,0 + j,none⟩) hblk]; exact (r5 j hj).1,by rw [World.frozen?_of_block (a:=⟨g,0 + j,none⟩) hblk]; exact (r5 j hj).2⟩⟩
  have y1:w1.cell? ⟨w.heap.size,1,none⟩ = some (.int .i64 n):=zh (za HX1) 1 rfl
  have y2:w1.cell? ⟨w.heap.size,2,none⟩ = some (.slice qa l.length da):=zh (za HX1) 2 rfl
  generalize hkk:1 + 14 * evN gl = kk
  have HKK:=hide hkk
  have hkk1:kk ≤ 1000000:=by omega
  have hkk0:0 < kk:=by omega
  clear hg1 hk1 hkk
  go_wp2_with fail
  refine (markBookK n _ l kk w1 (za HO1) (by omega) hkk0 (by omega)).mono ?_
  rintro e w2 ⟨rfl,ho2,G,hgr,hG⟩
  have HO2:=hide ho2
  have HGR:=hide hgr
  have HGG:=hide hG
  clear ho2 hgr hG y1 y2
  go_wp2_with fail
  go_ret
  refine ⟨zo (by rw [za HKK]; omega),?_,by rw [za HKK]; exact za HO2,?_⟩
  · exact gow_grown (za HG1) (za HGR) (fun g hg b e e'=>za HA1 g hg b e' (za HGG b e).1) (fun b e gb e' e''=>za HA2 gb e' (by rw [e'']; exact (za HGG b e).1))
  · refine kg_step (kg_more ?_) (za HGR) (fun b e=>⟨_,List.mem_cons_self,(za HGG b e).1⟩)
    exact kg_after (zaa (za HB0) (Nat.le_refl _)) (za HK1)
set_option maxRecDepth 100000 in
set_option maxHeartbeats 1600000 in
theorem heldRun_any {B:Nat} (aa:Option Addr) (ca:Nat) (gs:List Value) (gl:List (List Ev)) (n:Int) (v:Value) (l:List Od) (t:Tot) (w:World) (h:GO w B aa gs (mgL 1 gl)) (ho:OwnR Od.vs 6 B w v (zaz (1 + 14 * evN gl) l.length)) (hn:gl.length ≤ 200) (he:∀ es ∈ gl,es.length ≤ 100) (hl:l.length ≤ 1000) :
    Calls Tryz.prog 26 #[.agg #[.slice aa gs.length ca,.int .i64 n,v,.int .i64 t.gr,.int .i64 t.ac,.int .i64 t.rf,.int .i64 t.tr,.int .i64 t.vo,.int .i64 t.no,.int .i64 t.li,.int .i64 t.le],.int .i64 1] w fun e w'=>e = .returned (.int .i64 ((1 + 14 * evN gl + 6 * l.length:Nat):Int))∧Below w.heap.size w w':=by
  have HG:=hide h
  have HO:=hide (zaA ho)
  have HE:=hide he
  have HGL:Hid (gs.length = gl.length):=by
    have:gs.length = gl.length:=by rw [h.len,zcp]
    exact this
  have hev:evN gl ≤ 20000:=by have:=zbJ he hn gl.length; rwa [List.take_of_length_le (Nat.le_refl _)] at this
  obtain ⟨qa,da,rfl,-,-⟩:=ho
  rw [zax] at *
  have HX:=hide (bx_made w [.slice aa gs.length ca,.int .i64 n,.slice qa l.length da,.int .i64 t.gr,.int .i64 t.ac,.int .i64 t.rf,.int .i64 t.tr,.int .i64 t.vo,.int .i64 t.no,.int .i64 t.li,.int .i64 t.le] 50)
  have HB0:=hide ((Below.refl w.heap.size w).alloc (Nat.le_refl _) (Obj.cells ([.slice aa gs.length ca,.int .i64 n,.slice qa l.length da,.int .i64 t.gr,.int .i64 t.ac,.int .i64 t.rf,.int .i64 t.tr,.int .i64 t.vo,.int .i64 t.no,.int .i64 t.li,.int .i64 t.le]:List Value).toArray 50))
  clear h he
  go_enter Tryz.func26,Tryz.ntmps26
  go_wp2_with fail
  change Calls _ _ _ (w.alloc (Obj.cells ([.slice aa gs.length ca,.int .i64 n,.slice qa l.length da,.int .i64 t.gr,.int .i64 t.ac,.int .i64 t.rf,.int .i64 t.tr,.int .i64 t.vo,.int .i64 t.no,.int .i64 t.li,.int .i64 t.le]:List Value).toArray 50)) _
  have hXs:w.heap.size < (w.alloc (Obj.cells ([.slice aa gs.length ca,.int .i64 n,.slice qa l.length da,.int .i64 t.gr,.int .i64 t.ac,.int .i64 t.rf,.int .i64 t.tr,.int .i64 t.vo,.int .i64 t.no,.int .i64 t.li,.int .i64 t.le]:List Value).toArray 50)).heap.size:=by simp
  have HXS:=hide hXs
  clear hXs
  generalize (w.alloc (Obj.cells ([.slice aa gs.length ca,.int .i64 n,.slice qa l.length da,.int .i64 t.gr,.int .i64 t.ac,.int .i64 t.rf,.int .i64 t.tr,.int .i64 t.vo,.int .i64 t.no,.int .i64 t.li,.int .i64 t.le]:List Value).toArray 50)) = X at HX HB0 HXS ⊢
  have HGX:=hide (go_below (za HG) (za HB0) (Nat.le_refl _))
  refine (heldGs_any aa ca gs gl 1 X (za HGL) (fun i g es hg hes=>?_) hn (za HE) (by omega) (by omega)).mono ?_
  · obtain ⟨gb,e1,e2,e3⟩:=(za HGX).cells i g hg
    exact ⟨gb,e1,e2,e3,zaA ((za HGX).each i g _ hg (mgL_get gl 1 i es hes))⟩
  rintro e w1 ⟨rfl,hb⟩
  have HX1:=hide (zD (za HX) hb (za HXS))
  have HB1:=hide ((za HB0).trans (hb.mono (za HB0).size))
  have y1:w1.cell? ⟨w.heap.size,1,none⟩ = some (.int .i64 n):=zh (za HX1) 1 rfl
  have y2:w1.cell? ⟨w.heap.size,2,none⟩ = some (.slice qa l.length da):=zh (za HX1) 2 rfl
  have HRD:=hide (zi (za HO) (za HB1) (Nat.le_refl _))
  generalize hkk:1 + 14 * evN gl = kk at HRD ⊢
  have HKK:=hide hkk
  have hkk1:kk ≤ 1000000:=by omega
  have hkk0:0 < kk:=by omega
  have hneg:¬ ((kk:Int) < 0):=by omega
  have hneg2:¬ (((kk + 6 * l.length:Nat):Int) < 0):=by omega
  clear hb hkk
  go_wp2_with fail
  refine (heldBook_any n _ l.length kk w1 (by omega) hkk0 (by omega) (za HRD)).mono ?_
  rintro e w2 ⟨rfl,hb⟩
  have HB2:=hide ((za HB1).trans (hb.mono (za HB1).size))
  generalize hnn:kk + 6 * l.length = nk at hneg2 ⊢
  have HNN:=hide hnn
  clear hb hnn
  go_wp2_with fail
  go_ret
  exact ⟨zo (by rw [za HKK,za HNN]),za HB2⟩
end Go.Proofs.YtdfihaabhichdaaGreat
namespace Go.Proofs.YtdfihaabhichdaaGreat
open Go.RowKit
set_option linter.unusedVariables false

theorem run_fold:∀ (cs:List Cm) (s:RunSt),s.t = s.g.foldl wgT tot0→(cs.foldl rstep s).t = (cs.foldl rstep s).g.foldl wgT tot0
  | [],s,h=>h
  | c :: cs,s,h=>by
    rw [List.foldl_cons]
    refine run_fold cs _ ?_
    show wgT s.t (stE s.n s.l c) = (s.g ++ [stE s.n s.l c]).foldl wgT tot0
    rw [List.foldl_append,← h]; rfl
structure Al (t u:Tot):Prop where
  ac:t.ac = u.ac
  rf:t.rf = u.rf
  tr:t.tr = u.tr
  vo:t.vo = u.vo
  no:t.no = u.no
theorem al_cnt {t u:Tot} (e:Ev) (h:Al t u):Al (cntE t e) (cntM u e):=by
  obtain ⟨h1,h2,h3,h4,h5⟩:=h
  unfold cntE cntM
  split
  · exact ⟨by simp only [h1],h2,h3,h4,h5⟩
  · split
    · exact ⟨h1,by simp only [h2],h3,h4,h5⟩
    · split
      · exact ⟨h1,h2,by simp only [h3],by simp only [h4],by simp only [h5]⟩
      · split
        · exact ⟨h1,h2,h3,h4,h5⟩
        · exact ⟨h1,h2,h3,h4,h5⟩
theorem al_fold:∀ (es:List Ev) {t u:Tot},Al t u→Al (es.foldl cntE t) (es.foldl cntM u)
  | [],_,_,h=>h
  | e :: es,_,_,h=>al_fold es (al_cnt e h)
theorem cntE_rest (t:Tot) (e:Ev):(cntE t e).gr = t.gr∧(cntE t e).li = t.li∧(cntE t e).le = t.le:=by
  unfold cntE
  split
  · exact ⟨rfl,rfl,rfl⟩
  · split
    · exact ⟨rfl,rfl,rfl⟩
    · split <;> exact ⟨rfl,rfl,rfl⟩
theorem cntE_fold:∀ (es:List Ev) (t:Tot),(es.foldl cntE t).gr = t.gr∧(es.foldl cntE t).li = t.li∧(es.foldl cntE t).le = t.le
  | [],_=>⟨rfl,rfl,rfl⟩
  | e :: es,t=>by
    have h1:=cntE_fold es (cntE t e)
    have h2:=cntE_rest t e
    exact ⟨h1.1.trans h2.1,h1.2.1.trans h2.2.1,h1.2.2.trans h2.2.2⟩
theorem cntM_gr:∀ (es:List Ev) (t:Tot),(es.foldl cntM t).gr = t.gr
  | [],_=>rfl
  | e :: es,t=>by
    refine (cntM_gr es (cntM t e)).trans ?_
    unfold cntM
    split
    · rfl
    · split
      · rfl
      · split
        · rfl
        · split <;> rfl
theorem totG_gr:∀ (gl:List (List Ev)) (t:Tot),(totG t gl).gr = t.gr
  | [],_=>rfl
  | es :: gl,t=>(totG_gr gl (es.foldl cntM t)).trans (cntM_gr es t)
theorem wrap_small {x:Int} (h0:0 ≤ x) (h1:x ≤ 1000000):wrap64 x = x:=by unfold wrap64; omega
theorem wg_al:∀ (gl:List (List Ev)) {t u:Tot},Al t u→0 ≤ t.gr→t.gr + gl.length ≤ 1000000→Al (gl.foldl wgT t) (totG u gl)∧(gl.foldl wgT t).gr = t.gr + gl.length∧(gl.foldl wgT t).li = t.li∧(gl.foldl wgT t).le = t.le
  | [],t,u,h,_,_=>⟨h,by simp,rfl,rfl⟩
  | es :: gl,t,u,h,h0,h1=>by
    rw [List.length_cons] at h1
    have hf:=cntE_fold es { t with gr:=wrap64 (t.gr + 1) }
    have hw:wrap64 (t.gr + 1) = t.gr + 1:=wrap_small (by omega) (by omega)
    have hg:(wgT t es).gr = t.gr + 1:=hf.1.trans hw
    have ha:Al (wgT t es) (es.foldl cntM u):=al_fold es ⟨h.ac,h.rf,h.tr,h.vo,h.no⟩
    have ih:=wg_al gl ha (by omega) (by omega)
    refine ⟨ih.1,?_,ih.2.2.1.trans hf.2.1,ih.2.2.2.trans hf.2.2⟩
    have:=ih.2.1
    rw [List.foldl_cons,this,List.length_cons]; omega
theorem wb_fold:∀ (l:List Od) (t:Tot) (n:Int),0 ≤ t.li→t.li + l.length ≤ 1000000→l.foldl cntO { t with le:=n } = { t with li:=t.li + l.length,le:=l.foldl (fun n o=>wrap64 (n + o.left)) n }
  | [],t,n,_,_=>by simp
  | o :: l,t,n,h0,h1=>by
    rw [List.length_cons] at h1
    have hw:wrap64 (t.li + 1) = t.li + 1:=wrap_small (by omega) (by omega)
    rw [List.foldl_cons,List.foldl_cons]
    have:=wb_fold l { t with li:=t.li + 1 } (wrap64 (n + o.left)) (by show 0 ≤ t.li + 1; omega) (by show t.li + 1 + _ ≤ _; omega)
    simp only at this
    unfold cntO
    simp only [hw]
    refine this.trans ?_
    congr 1
    rw [List.length_cons]; omega
theorem tot_eq (cs:List Cm) (h:cs.length ≤ 200):wbT (runS cs).t (runS cs).l = totM (runS cs).g (runS cs).l:=by
  have hI:=run_inv cs h
  have hl:=hI.1.good.len
  have hf:(runS cs).t = (runS cs).g.foldl wgT tot0:=run_fold cs _ rfl
  generalize runS cs = s at hI hl hf ⊢
  obtain ⟨ha,hg,hli,hle⟩:=wg_al s.g (t:=tot0) (u:={ tot0 with gr:=s.g.length }) ⟨rfl,rfl,rfl,rfl,rfl⟩ (by show (0:Int) ≤ 0; omega) (by show (0:Int) + _ ≤ _; omega)
  have hgr:=totG_gr s.g { tot0 with gr:=s.g.length }
  rw [← hf] at ha hg hli hle
  unfold totM wbT
  generalize totG { tot0 with gr:=s.g.length } s.g = U at ha hgr ⊢
  have hw:=wb_fold s.l s.t 0 (by rw [hli]; show (0:Int) ≤ 0; omega) (by rw [hli]; show (0:Int) + _ ≤ _; omega)
  have ht:{ s.t with le:=0 } = s.t:=by rw [show (0:Int) = s.t.le from hle.symm]
  rw [ht] at hw
  rw [hw]
  obtain ⟨u1,u2,u3,u4,u5,u6,u7,u8⟩:=U
  generalize s.t = T at *
  obtain ⟨t1,t2,t3,t4,t5,t6,t7,t8⟩:=T
  obtain ⟨a1,a2,a3,a4,a5⟩:=ha
  simp only [tot0] at *
  simp only [Tot.mk.injEq]
  exact ⟨by omega,a1,a2,a3,a4,a5,by omega,rfl⟩
end Go.Proofs.YtdfihaabhichdaaGreat
namespace Go.Proofs.YtdfihaabhichdaaGreat
open Go.RowKit
set_option linter.unusedVariables false

theorem zI (n a b:Int) (w:World) :
    Calls Tryz.prog 59 #[.int .i64 n,.int .i64 a,.int .i64 b] w fun e w'=>e = .returned (.bool (betB n a b))∧w' = w:=by
  go_enter Tryz.func59,Tryz.ntmps59
  go_wp2
  all_goals go_ret
  all_goals exact ⟨zF (by rw [Bool.eq_iff_iff]; simp [betB]; omega),rfl⟩
set_option maxHeartbeats 400000 in
theorem l03Tag_any (s:ByteArray) (w:World) (hs:s.size ≤ maxLen) :
    Calls Tryz.prog 96 #[.string s] w fun e w'=>e = .returned (.bool (tagB s))∧w' = w:=by
  unfold maxLen at hs
  by_cases hl:s.size ≤ 12
  · have hl':¬ ((12:Int) < s.size):=by omega
    go_enter Tryz.func96,Tryz.ntmps96
    go_wp2_with fail
    go_loop [3] (fun i=>∃ k:Nat,k ≤ s.size∧i = .int .i64 k∧Hid (s.data.toList.all tagC = (s.data.toList.drop k).all tagC)) (fun i=>s.size - (intOf i).toNat)
    case atStart=>exact ⟨0,Nat.zero_le _,rfl,by simp [Hid]⟩
    case round =>
      obtain ⟨k,hk,rfl,hall⟩:=hrel
      by_cases hlt:k < s.size
      · have hlt':(k:Int) < s.size:=by omega
        have hdr:=drop_cons s k hlt
        have hw:betB (s[k].toNat:Int) 32 126 = tagC s[k]:=rfl
        cases ht:tagC s[k]
        · have HT:Hid (s.data.toList.all tagC = false):=by
            have:=za hall
            rw [hdr,List.all_cons,ht,Bool.false_and] at this
            exact this
          rw [ht] at hw
          have hor:(s[k].toNat:Int) < 32 ∨ (32 ≤ (s[k].toNat:Int)∧(126:Int) < s[k].toNat):=by
            simp [betB] at hw; omega
          clear hdr ht hw
          rcases hor with h32 | ⟨h32,h126⟩
          · have hd:decide ((s[k].toNat:Int) < 32) = true:=by simpa using h32
            go_wp2_with fail
            go_ret
            exact ⟨zF (tag_no s (za HT)).symm,rfl⟩
          · have hd:decide ((s[k].toNat:Int) < 32) = false:=by simpa using h32
            go_wp2_with fail
            go_ret
            exact ⟨zF (tag_no s (za HT)).symm,rfl⟩
        · have HN:Hid (s.data.toList.all tagC = (s.data.toList.drop (k + 1)).all tagC):=by
            have:=za hall
            rw [hdr,List.all_cons,ht,Bool.true_and] at this
            exact this
          rw [ht] at hw
          have hor:32 ≤ (s[k].toNat:Int)∧(s[k].toNat:Int) ≤ 126:=by
            simp [betB] at hw; omega
          obtain ⟨h32,h126⟩:=hor
          have hd:decide ((s[k].toNat:Int) < 32) = false:=by simpa using h32
          have hd2:¬ ((126:Int) < s[k].toNat):=by omega
          clear hdr ht hw
          go_wp2_with fail
          go_round
          case rel=>exact ⟨k + 1,by omega,by go_num,za HN⟩
          case measure=>simp [intOf]; omega
      · go_wp2_with fail
        go_ret
        have h:=za hall
        rw [List.drop_of_length_le (by rw [data_len]; omega)] at h
        exact ⟨zF (tag_yes s hl (by rw [h]; rfl)).symm,rfl⟩
  · have hl':(12:Int) < s.size:=by omega
    go_enter Tryz.func96,Tryz.ntmps96
    go_wp2_with fail
    go_ret
    exact ⟨zF (tag_long s hl).symm,rfl⟩
end Go.Proofs.YtdfihaabhichdaaGreat
