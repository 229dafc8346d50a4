/-
  An order cancelled by the engine: proved by walking the method.
-/
import Derived.Test.YtdfihaabhichdaaGreatRj22
namespace Go.Proofs.YtdfihaabhichdaaGreat
open Go.RowKit
set_option linter.unusedVariables false

def DVE (vs:List Value) (p:Prop) (W:World) (j:Nat) (v:Value):Prop:=∀ u,vs[j]? = some u→v = u
theorem dvE_mono {vs:List Value}:∀ p W W' j v,Below W.heap.size W W'→DVE vs p W j v→DVE vs p W' j v:=fun _ _ _ _ _ _ h=>h
set_option maxRecDepth 100000 in
set_option maxHeartbeats 6400000 in
theorem cancelE_any {mb B Bo:Nat} {gv:Value} {gs:List Value} {gl:List (List Ev)} {next:Int} {vq:Value} {l:List Od} {t:Tot} {vo:Value} {ts:List Ev} (id:Int) (k:Nat) (c:Od) (w:World) (h:EnS mb B Bo w gv gs gl next vq l t vo ts) (hl:l.length ≤ 1000) (hn:ts.length ≤ 1000) (hk:plc l id = k) (hc:l[k]? = some c) (hc0:0 ≤ c.left) (hc1:c.left ≤ 1000000) :
  Calls Tryz.prog 84 #[.pointer (some ⟨mb,0,none⟩),.agg #[.int .i64 id]] w fun r w'=>r = .returned (.tuple #[])∧(∃ vq' vo',EnS mb B Bo w' gv gs gl next vq' (zas l k c c.left) t vo' (ts ++ [⟨6,zCm,id,0,c.left,0,0⟩]))∧KeptBut mb B w w':=by
 have hne:l ≠ []:=by rintro rfl; simp at hc
 have hkl:=(List.getElem?_eq_some_iff.1 hc).1
 obtain ⟨g,cap,rfl,hcap,hBg,hgw⟩:=zbF h.orow hne
 have hmw:=h.lt
 have hBw:B ≤ w.heap.size:=Nat.le_trans h.bo h.le
 have hb1:Below w.heap.size w (w.alloc (Obj.cells #[.int .i64 id] 131)):=(Below.refl _ _).alloc (Nat.le_refl _) _
 have HE:=hide (zR h hb1)
 have HB1:=hide hb1
 have hs1:w.heap.size < (w.alloc (Obj.cells #[.int .i64 id] 131)).heap.size:=by rw [zf]; omega
 have HKR:Hid (World.rangeAt (w.alloc (Obj.cells #[.int .i64 id] 131)) w.heap.size 0 [.int .i64 id]):=zg w [.int .i64 id] _
 have HKB:Hid (∃ cur,(w.alloc (Obj.cells #[.int .i64 id] 131)).heap[w.heap.size]? = some (.cells cur 131 (0,0))):=⟨_,heap_alloc_new w _⟩
 have HPL:=hide hk
 have HLC:=hide hc
 have HC01:Hid (0 ≤ c.left∧c.left ≤ 1000000):=⟨hc0,hc1⟩
 clear h hb1 hk hc hne hc0 hc1
 go_enter Tryz.func84,Tryz.ntmps84
 refine wp_seq_k fun K hK=>?_
 have HK1:=hide hK
 clear hK
 go_wp2_with fail
 refine za HK1 _ _ ?_
 clear HK1
 generalize (w.alloc (Obj.cells #[.int .i64 id] 131)) = X at HE HB1 hs1 HKR HKB ⊢
 have hgX:g < X.heap.size:=by omega
 have hmX:mb < X.heap.size:=by omega
 have HM1:Hid (X.cell? ⟨mb,1,none⟩ = some (.int .i64 next)):=(za HE).cells 1 _ rfl
 have HM2:Hid (X.cell? ⟨mb,2,none⟩ = some (.slice (some ⟨g,0,none⟩) l.length cap)):=(za HE).cells 2 _ rfl
 have HK0:Hid (X.cell? ⟨w.heap.size,0,none⟩ = some (.int .i64 id)):=za HKR 0 _ rfl
 have HRD:=hide (zP (za HE).orow (by omega))
 have HG3:Hid (X.cell? ⟨g,k * 6 + 3,none⟩ = some (.int .i64 c.left)):=(row_hereE (za HE).orow hl (za HLC)).1 3 _ rfl
 have hkl':(k:Int) < l.length:=by omega
 have hk0:(0:Int) ≤ k:=by omega
 refine wp_seq_k fun K hK=>?_
 have HK1:=hide hK
 clear hK
 refine zj (RG X (fun f=>{ tmps:=#[.pointer (some ⟨mb,0,none⟩),.agg #[.int .i64 id],undef,.pointer (some ⟨w.heap.size,0,none⟩),f 17,f 0,f 1,f 2,f 3,f 4,f 5,f 6,f 7,f 8,f 9,f 10,f 11,f 12,f 13,f 14,f 15,f 16,undef,undef,undef,undef,undef,undef,undef,undef,undef,undef,undef,undef,undef,undef],defers:=[] }) 99 (DVE [.pointer (some ⟨mb,0,none⟩),.pointer (some ⟨mb,0,none⟩),.pointer (some ⟨mb,0,none⟩),.pointer (some ⟨mb,1,none⟩),.pointer (some ⟨mb,2,none⟩),.slice (some ⟨g,0,none⟩) l.length cap,.pointer (some ⟨mb,0,none⟩),.pointer (some ⟨mb,0,none⟩),.pointer (some ⟨mb,0,none⟩),.pointer (some ⟨mb,1,none⟩),.agg #[.int .i64 next,.slice (some ⟨g,0,none⟩) l.length cap],.pointer (some ⟨w.heap.size,0,none⟩),.int .i64 id,.int .i64 k,.pointer (some ⟨g,k * 6,none⟩),.pointer (some ⟨g,k * 6 + 3,none⟩),.int .i64 c.left,.int .i64 c.left])) (by kernel_rfl) ?_ ?_ ?_
 ·exact ⟨fun _=>undef,rfl,⟨rfl,rfl,rfl,Nat.le_refl _,fun _ _=>rfl⟩,fun j hj=>by rw [List.getElem?_replicate] at hj; split at hj <;> simp at hj⟩
 ·rintro x A V ⟨f,rfl,hbel,hD⟩ hx hrd
  have hallx:=zY hrd hx (acyc _ (by kernel_rfl))
  have e17:f 17 = .int .i64 c.left:=hD 17 (hallx 17 (by simp)) _ rfl
  refine za HK1 _ _ ?_
  clear HK1
  simp only [e17]
  generalize f 0 = v0
  generalize f 1 = v1
  generalize f 2 = v2
  generalize f 3 = v3
  generalize f 4 = v4
  generalize f 5 = v5
  generalize f 6 = v6
  generalize f 7 = v7
  generalize f 8 = v8
  generalize f 9 = v9
  generalize f 10 = v10
  generalize f 11 = v11
  generalize f 12 = v12
  generalize f 13 = v13
  generalize f 14 = v14
  generalize f 15 = v15
  generalize f 16 = v16
  have HE1:=hide (zR (za HE) hbel)
  have HKV:Hid (KeptBut mb B w V):=zk (zG (za HB1) hBw) (zG hbel (by omega))
  have z3:V.cell? ⟨w.heap.size,0,none⟩ = some (.int .i64 id):=(hbel.cell (p:=⟨w.heap.size,0,none⟩) hs1).trans (za HK0)
  have hsV:w.heap.size < V.heap.size:=Nat.lt_of_lt_of_le hs1 hbel.size
  have HBoX:Hid (∃ cur,V.heap[w.heap.size]? = some (.cells cur 131 (0,0))):=by
   obtain ⟨cur,hc⟩:=za HKB
   exact ⟨cur,(hbel.block w.heap.size hs1).trans hc⟩
  clear hD hallx e17 hrd hx hbel HM1 HM2 HG3 HRD
  refine wp_seq_k fun K hK=>?_
  have HK1:=hide hK
  clear hK
  go_wp2_with fail
  refine (zaT ⟨6,zCm,id,0,c.left,0,0⟩ V (za HE1) hn).mono ?_
  rintro e w5 ⟨rfl,⟨vo',hE5⟩,hk5,ht5⟩
  have HE5:=hide hE5
  have HK5:=hide (zk (za HKV) hk5)
  have z5:w5.cell? ⟨w.heap.size,0,none⟩ = some (.int .i64 id):=(World.cell?_of_block (a:=⟨w.heap.size,0,none⟩) (ht5.block w.heap.size hsV (by omega) (zl (za HE1).erow (za HBoX) (by decide)))).trans z3
  clear hE5 hk5 z3 ht5
  go_wp2_with fail
  refine za HK1 _ _ ?_
  clear HK1
  refine zbk 7 (by kernel_rfl) (by kernel_rfl) ?_
  simp only [List.take_succ_cons,List.take_zero,List.drop_succ_cons,List.drop_zero]
  have z5d:w5.drew.cell? ⟨w.heap.size,0,none⟩ = some (.int .i64 id):=z5
  repeat still_step
  refine wpStill_nil ?_
  go_wp2_with fail
  refine (takeFrom_any mb 1 B next id c.left _ l k c w5.drew ((za HE5).cells 1 _ rfl) ((za HE5).cells 2 _ rfl) (by have:=((za HE5).there 2 (by omega)).2; rwa [Nat.zero_add] at this) (za HE5).orow (zl (za HE5).orow (za HE5).box (by decide)) (za HE5).lt (Nat.le_trans (za HE5).bo (za HE5).le) hl (za HPL) (za HLC) (za HC01).1 (Int.le_refl _) (za HC01).2).mono ?_
  rintro e w9 ⟨vq',rfl,hc9,ho9,ht9⟩
  have HE9:=hide (ens_took (zR (za HE5) (w':=w5.drew) ⟨rfl,rfl,rfl,Nat.le_refl _,fun _ _=>rfl⟩) hc9 ho9 ht9)
  have HK9:Hid (KeptBut mb B w w9):=zk (kept_drew (za HK5)) (zbb ht9 (Nat.le_trans (za HE5).bo (za HE5).le) (fun g' hg'=>((za HE5).orow.lt g' hg').1))
  clear hc9 ho9 ht9
  go_wp2_with fail
  go_end0
  exact ⟨rfl,⟨vq',vo',za HE9⟩,za HK9⟩
 ·rintro x A V i op ⟨f,rfl,hbel,hD⟩ hcl hx ho hxi hall
  clear hcl
  have HBV:=hide hbel
  have HD:=hide hD
  have cellV:∀ (p:Addr) u,X.cell? p = some u→V.cell? p = some u:=fun p u hu=>(hbel.cell (World.block_lt_of_cell? X _ hu)).trans hu
  have HRV:=hide (zi (za HRD) hbel (Nat.le_refl _))
  match i,ho with
  | 0,ho =>
   obtain rfl:=Option.some.inj ho
   clear hall hD hbel cellV
   rw [if_pos (by rfl)]
   unfold Oper.wp
   go_simp
   exact ⟨upd f 0 (.pointer (some ⟨mb,0,none⟩)),by simp [upd],ze (za HBV) (za HD) (by decide) (fun u hu=>by cases hu; rfl)⟩
  | 1,ho =>
   obtain rfl:=Option.some.inj ho
   have g0:f 0 = .pointer (some ⟨mb,0,none⟩):=hD 0 (hall ⟨0,.data⟩ (by simp) rfl) _ rfl
   clear hall hD hbel cellV
   rw [if_pos (by rfl)]
   unfold Oper.wp
   go_simp
   exact ⟨upd f 1 (.pointer (some ⟨mb,0,none⟩)),by simp [upd,g0],ze (za HBV) (za HD) (by decide) (fun u hu=>by cases hu; rfl)⟩
  | 2,ho =>
   obtain rfl:=Option.some.inj ho
   have g1:f 1 = .pointer (some ⟨mb,0,none⟩):=hD 1 (hall ⟨1,.data⟩ (by simp) rfl) _ rfl
   clear hall hD hbel cellV
   rw [if_pos (by rfl)]
   unfold Oper.wp
   go_simp
   exact ⟨upd f 2 (.pointer (some ⟨mb,0,none⟩)),by simp [upd,g1],ze (za HBV) (za HD) (by decide) (fun u hu=>by cases hu; rfl)⟩
  | 3,ho =>
   obtain rfl:=Option.some.inj ho
   have g2:f 2 = .pointer (some ⟨mb,0,none⟩):=hD 2 (hall ⟨2,.data⟩ (by simp) rfl) _ rfl
   clear hall hD hbel cellV
   rw [if_pos (by rfl)]
   unfold Oper.wp
   go_simp
   exact ⟨upd f 3 (.pointer (some ⟨mb,1,none⟩)),by simp [upd,g2],ze (za HBV) (za HD) (by decide) (fun u hu=>by cases hu; rfl)⟩
  | 4,ho =>
   obtain rfl:=Option.some.inj ho
   have g3:f 3 = .pointer (some ⟨mb,1,none⟩):=hD 3 (hall ⟨3,.data⟩ (by simp) rfl) _ rfl
   clear hall hD hbel cellV
   rw [if_pos (by rfl)]
   unfold Oper.wp
   go_simp
   exact ⟨upd f 4 (.pointer (some ⟨mb,2,none⟩)),by simp [upd,g3],ze (za HBV) (za HD) (by decide) (fun u hu=>by cases hu; rfl)⟩
  | 5,ho =>
   obtain rfl:=Option.some.inj ho
   have g4:f 4 = .pointer (some ⟨mb,2,none⟩):=hD 4 (hall ⟨4,.data⟩ (by simp) rfl) _ rfl
   have z2:=cellV ⟨mb,2,none⟩ _ (za HM2)
   clear hall hD hbel cellV
   rw [if_pos (by rfl)]
   unfold Oper.wp
   go_simp
   exact ⟨upd f 5 (.slice (some ⟨g,0,none⟩) l.length cap),by simp [upd,g4],ze (za HBV) (za HD) (by decide) (fun u hu=>by cases hu; rfl)⟩
  | 6,ho =>
   obtain rfl:=Option.some.inj ho
   clear hall hD hbel cellV
   rw [if_pos (by rfl)]
   unfold Oper.wp
   go_simp
   exact ⟨upd f 6 (.pointer (some ⟨mb,0,none⟩)),by simp [upd],ze (za HBV) (za HD) (by decide) (fun u hu=>by cases hu; rfl)⟩
  | 7,ho =>
   obtain rfl:=Option.some.inj ho
   have g6:f 6 = .pointer (some ⟨mb,0,none⟩):=hD 6 (hall ⟨6,.data⟩ (by simp) rfl) _ rfl
   clear hall hD hbel cellV
   rw [if_pos (by rfl)]
   unfold Oper.wp
   go_simp
   exact ⟨upd f 7 (.pointer (some ⟨mb,0,none⟩)),by simp [upd,g6],ze (za HBV) (za HD) (by decide) (fun u hu=>by cases hu; rfl)⟩
  | 8,ho =>
   obtain rfl:=Option.some.inj ho
   have g7:f 7 = .pointer (some ⟨mb,0,none⟩):=hD 7 (hall ⟨7,.data⟩ (by simp) rfl) _ rfl
   clear hall hD hbel cellV
   rw [if_pos (by rfl)]
   unfold Oper.wp
   go_simp
   exact ⟨upd f 8 (.pointer (some ⟨mb,0,none⟩)),by simp [upd,g7],ze (za HBV) (za HD) (by decide) (fun u hu=>by cases hu; rfl)⟩
  | 9,ho =>
   obtain rfl:=Option.some.inj ho
   have g8:f 8 = .pointer (some ⟨mb,0,none⟩):=hD 8 (hall ⟨8,.data⟩ (by simp) rfl) _ rfl
   clear hall hD hbel cellV
   rw [if_pos (by rfl)]
   unfold Oper.wp
   go_simp
   exact ⟨upd f 9 (.pointer (some ⟨mb,1,none⟩)),by simp [upd,g8],ze (za HBV) (za HD) (by decide) (fun u hu=>by cases hu; rfl)⟩
  | 10,ho =>
   obtain rfl:=Option.some.inj ho
   have g9:f 9 = .pointer (some ⟨mb,1,none⟩):=hD 9 (hall ⟨9,.data⟩ (by simp) rfl) _ rfl
   have z1:=cellV ⟨mb,1,none⟩ _ (za HM1)
   have z2:=cellV ⟨mb,2,none⟩ _ (za HM2)
   clear hall hD hbel cellV
   rw [if_pos (by rfl)]
   unfold Oper.wp
   go_simp
   exact ⟨upd f 10 (.agg #[.int .i64 next,.slice (some ⟨g,0,none⟩) l.length cap]),by simp [upd,g9],ze (za HBV) (za HD) (by decide) (fun u hu=>by cases hu; rfl)⟩
  | 11,ho =>
   obtain rfl:=Option.some.inj ho
   clear hall hD hbel cellV
   rw [if_pos (by rfl)]
   unfold Oper.wp
   go_simp
   exact ⟨upd f 11 (.pointer (some ⟨w.heap.size,0,none⟩)),by simp [upd],ze (za HBV) (za HD) (by decide) (fun u hu=>by cases hu; rfl)⟩
  | 12,ho =>
   obtain rfl:=Option.some.inj ho
   have g11:f 11 = .pointer (some ⟨w.heap.size,0,none⟩):=hD 11 (hall ⟨11,.data⟩ (by simp) rfl) _ rfl
   have z3:=cellV ⟨w.heap.size,0,none⟩ _ (za HK0)
   clear hall hD hbel cellV
   rw [if_pos (by rfl)]
   unfold Oper.wp
   go_simp
   exact ⟨upd f 12 (.int .i64 id),by simp [upd,g11],ze (za HBV) (za HD) (by decide) (fun u hu=>by cases hu; rfl)⟩
  | 13,ho =>
   obtain rfl:=Option.some.inj ho
   have g10:f 10 = .agg #[.int .i64 next,.slice (some ⟨g,0,none⟩) l.length cap]:=hD 10 (hall ⟨10,.data⟩ (by simp) rfl) _ rfl
   have g12:f 12 = .int .i64 id:=hD 12 (hall ⟨12,.data⟩ (by simp) rfl) _ rfl
   clear hall hD hbel cellV
   rw [if_pos (by rfl)]
   unfold Oper.wp
   go_simp
   refine (zbs next _ l id V (za HRV)).mono ?_
   rw [za HPL]
   rintro e w4 ⟨rfl,hb4⟩
   exact ⟨upd f 13 (.int .i64 k),by simp [upd,g10,g12],zcs dvE_mono (za HBV) (za HD) hb4 (by decide) (fun u hu=>by cases hu; rfl)⟩
  | 14,ho =>
   obtain rfl:=Option.some.inj ho
   have g5:f 5 = .slice (some ⟨g,0,none⟩) l.length cap:=hD 5 (hall ⟨5,.data⟩ (by simp) rfl) _ rfl
   have g13:f 13 = .int .i64 k:=hD 13 (hall ⟨13,.data⟩ (by simp) rfl) _ rfl
   clear hall hD hbel cellV
   rw [if_pos (by rfl)]
   unfold Oper.wp
   go_simp
   exact ⟨upd f 14 (.pointer (some ⟨g,k * 6,none⟩)),by simp [upd,g5,g13],ze (za HBV) (za HD) (by decide) (fun u hu=>by cases hu; rfl)⟩
  | 15,ho =>
   obtain rfl:=Option.some.inj ho
   have g14:f 14 = .pointer (some ⟨g,k * 6,none⟩):=hD 14 (hall ⟨14,.data⟩ (by simp) rfl) _ rfl
   clear hall hD hbel cellV
   rw [if_pos (by rfl)]
   unfold Oper.wp
   go_simp
   exact ⟨upd f 15 (.pointer (some ⟨g,k * 6 + 3,none⟩)),by simp [upd,g14],ze (za HBV) (za HD) (by decide) (fun u hu=>by cases hu; rfl)⟩
  | 16,ho =>
   obtain rfl:=Option.some.inj ho
   have g15:f 15 = .pointer (some ⟨g,k * 6 + 3,none⟩):=hD 15 (hall ⟨15,.data⟩ (by simp) rfl) _ rfl
   have z3:=cellV ⟨g,k * 6 + 3,none⟩ _ (za HG3)
   clear hall hD hbel cellV
   rw [if_pos (by rfl)]
   unfold Oper.wp
   go_simp
   exact ⟨upd f 16 (.int .i64 c.left),by simp [upd,g15],ze (za HBV) (za HD) (by decide) (fun u hu=>by cases hu; rfl)⟩
  | 17,ho =>
   obtain rfl:=Option.some.inj ho
   have g16:f 16 = .int .i64 c.left:=hD 16 (hall ⟨16,.data⟩ (by simp) rfl) _ rfl
   clear hall hD hbel cellV
   rw [if_pos (by rfl)]
   unfold Oper.wp
   go_simp
   exact ⟨upd f 17 (.int .i64 c.left),by simp [upd,g16],ze (za HBV) (za HD) (by decide) (fun u hu=>by cases hu; rfl)⟩
  | i + 18,ho=>simp at ho
end Go.Proofs.YtdfihaabhichdaaGreat
namespace Go.Proofs.YtdfihaabhichdaaGreat
open Go.RowKit
set_option linter.unusedVariables false

def fdyF:List Od→Nat→Int
 | [],_=>-1
 | o :: r,k=>if o.life = 1 then k else fdyF r (k + 1)
def fdy (l:List Od):Int:=fdyF l 0
set_option maxHeartbeats 400000 in
theorem zcm (o:Od) (w:World) :
  Calls Tryz.prog 123 #[.agg #[.int .i64 o.id,.int .i64 o.side,.int .i64 o.ticks,.int .i64 o.left,.int .i64 o.life,.string o.tag]] w fun e w'=>e = .returned (.bool (o.life == 1))∧Below w.heap.size w w':=by
 obtain ⟨oid,side,ticks,left,life,tag⟩:=o
 simp only
 go_enter Tryz.func123,Tryz.ntmps123
 go_wp2_with fail
 go_ret
 exact ⟨rfl,by go_grown⟩
set_option maxRecDepth 100000 in
set_option maxHeartbeats 800000 in
theorem indexDay_any (v:Value) (l:List Od) (w:World) (hr:RdR Od.vs 6 w v l) :
  Calls Tryz.prog 147 #[v,.func (.func 123) #[] #[]] w fun e w'=>e = .returned (.int .i64 (fdy l))∧Below w.heap.size w w':=by
 obtain ⟨a,cap,rfl,hlen,hc⟩:=hr
 have hcell:∀ (k:Nat) (c:Od),l[k]? = some c→∃ b off,a = some ⟨b,off,none⟩∧b < w.heap.size∧w.rangeAt b (off + k * 6) c.vs:=by
  intro k c hk
  obtain ⟨b,off,h1,h2,h3⟩:=hc (by intro h; rw [h] at hk; simp at hk)
  exact ⟨b,off,h1,h2,h3 k c hk⟩
 have HC:=hide hcell
 clear hcell hc
 go_enter Tryz.func147,Tryz.ntmps147
 go_wp2_with fail
 go_loopw [8] (fun iv wr=>∃ (k:Nat),k ≤ l.length∧iv = .int .i64 k∧Hid (fdy l = fdyF (l.drop k) k)∧Below w.heap.size w wr) (fun iv _=>l.length - (intOf iv).toNat)
 case atStart=>exact ⟨0,Nat.zero_le _,rfl,rfl,Below.refl _ _⟩
 case round =>
  obtain ⟨k,hk,rfl,hpl,hbel⟩:=hrel
  have HB:=hide hbel
  clear hbel
  by_cases hlt:k < l.length
  ·obtain ⟨c,hkc⟩:∃ c,l[k]? = some c:=⟨_,List.getElem?_eq_getElem hlt⟩
   have HP:Hid (fdy l = if c.life = 1 then (k:Int) else fdyF (l.drop (k + 1)) (k + 1)):=by
    have:=za hpl
    rw [drop_get hkc] at this
    exact this
   obtain ⟨b,off,rfl,hb,hcl⟩:=za HC k c hkc
   obtain ⟨g0,g1,g2,g3,g4,g5⟩:=zC (zb hcl (za HB) hb)
   have hlt':(k:Int) < l.length:=by omega
   clear hkc hcl hb hpl
   go_wp2_with fail
   refine (zcm c wr).mono ?_
   rintro e w3 ⟨rfl,hb3⟩
   have HB3:=hide ((za HB).trans (hb3.mono (za HB).size))
   clear hb3
   by_cases hid:c.life = 1
   ·have hb:(c.life == 1) = true:=by simpa using hid
    have HK:Hid (fdy l = k):=by have:=za HP; rw [if_pos hid] at this; exact this
    clear hid
    go_wp2_with fail
    go_ret
    exact ⟨zo (za HK).symm,za HB3⟩
   ·have hb:(c.life == 1) = false:=by simpa using hid
    have HK:Hid (fdy l = fdyF (l.drop (k + 1)) (k + 1)):=by have:=za HP; rw [if_neg hid] at this; exact this
    clear hid
    go_wp2_with fail
    go_roundw
    case rel=>exact ⟨k + 1,by omega,by go_num,za HK,za HB3⟩
    case measure=>simp [intOf]; omega
  ·have HK:Hid (fdy l = -1):=by
    have h:=za hpl
    rw [List.drop_of_length_le (by omega)] at h
    exact h
   go_wp2_with fail
   go_ret
   exact ⟨zo (za HK).symm,za HB⟩
end Go.Proofs.YtdfihaabhichdaaGreat
