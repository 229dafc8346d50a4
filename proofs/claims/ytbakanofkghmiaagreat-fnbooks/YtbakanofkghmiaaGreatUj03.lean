/-
  Floats drawn out of the source, and what stands of them as prices: proved by walking the method.
-/
import Derived.Test.YtbakanofkghmiaaGreatUj02
set_option linter.unusedVariables false
set_option maxHeartbeats 6400000
set_option maxRecDepth 100000
namespace Go.Proofs.YtbakanofkghmiaaGreat
open Go.RowKit Ieee
set_option linter.unusedVariables false

def prB (p:Nat):Bool:=!tkOk p || (decide (1 ≤ tk p) && decide (tk p ≤ 1000000))
theorem bj {p:Nat} (h:prB p = true):PrW p:=fun hk=>by
 rw [prB,hk] at h
 simpa using h
theorem prW_nan {x:Nat} (h:nanB x = true):PrW x:=fun hk=>by
 exfalso
 have G:=(nan_iff x).1 h
 have e:FloatKind.f64.format.order x 0 = none:=by
  show (double.read x).order (double.read 0) = none
  cases hx:double.read x with
  | nan s f=>rfl
  | infinity s=>rw [hx] at G; simp [Datum.isNaN] at G
  | number s m i=>rw [hx] at G; simp [Datum.isNaN] at G
 rw [tkOk,e] at hk
 simp at hk
theorem nanOf_prW (W:World):PrW (nanOf W):=by
 have h:nanOf W = (W.tape W.drawn (.nanBits .f64 0 0) % 2) * 2 ^ 63 + 0x7ff0000000000000 + 1 + (W.tape W.drawn (.nanBits .f64 0 0) / 2) % (2 ^ 52 - 1):=rfl
 rw [h]
 exact prW_nan (nan_drawn _)
theorem copysign_anyT (w:World):Calls Tryz.prog 164 #[yi 0,yi 13830554455654793216] w fun e w'=>∃ y:Nat,e = yl (yi y)∧PrW y∧w' = w:=by
 have G:=fbits
 have D:=frombitsS
 go_enter Tryz.func164,Tryz.ntmps164
 go_wp2_with fail
 go_ret
 exact ⟨_,rfl,bj (by kernel_rfl),rfl⟩
theorem float_rowT (k n y:Nat) (w:World) (t:TypeId) (h:k < 15) (hn:PrW n) (hy:PrW y) :
  ∃ z:Nat,PrW z∧(w.alloc (.cells #[yi 0,yi 9223372036854775808,yi n,yi 9218868437227405312,yi 18442240474082181120,yi 4598175219545276416,yi 4636737291354636288,yi 4636719699168591872,
   yi 4687829947429945344,yi 4687829956019879936,yi 4591870180066957722,yi 13830554455654793216,yi y,yi 9094988921128908188,yi 1] t)).cell? (yp w k) = some (yi z):=by
 rcases (show k = 0 ∨ k = 1 ∨ k = 2 ∨ k = 3 ∨ k = 4 ∨ k = 5 ∨ k = 6 ∨ k = 7 ∨ k = 8 ∨ k = 9 ∨ k = 10 ∨ k = 11 ∨ k = 12 ∨ k = 13 ∨ k = 14 by omega) with rfl | rfl | rfl | rfl | rfl | rfl | rfl | rfl | rfl | rfl | rfl | rfl | rfl | rfl | rfl
 all_goals first | exact ⟨_,hn,cell_of_row _ _ _ _ _ (0,0) (heap_alloc_new w _)⟩ | exact ⟨_,hy,cell_of_row _ _ _ _ _ (0,0) (heap_alloc_new w _)⟩ | exact ⟨_,bj (by kernel_rfl),cell_of_row _ _ _ _ _ (0,0) (heap_alloc_new w _)⟩
theorem float_drawnT (B:Nat) (v:Value) (l:List Int) (m:Int) (w:World) (h:Src B w v l m) (hm:m ≤ 900000000) :
  Calls Tryz.prog 142 #[I B 0] w fun e w'=>∃ y:Nat,e = yl (yi y)∧PrW y∧aA B w v l (m + 3) w':=by
 have HS:=Y h
 have hB:=src_lt h
 clear h
 have e1:=neg_zero
 have e2:=one_zero
 have e3:=less_zero
 have e4:=zero_zero
 go_enter Tryz.func142,Tryz.ntmps142
 go_wp2_with (first | (go_at_call 163; refine (zero_any _).mono ?_; rintro e w' ⟨rfl,rfl⟩) | (go_at_call 164; refine (copysign_anyT _).mono ?_; rintro e w' ⟨y0,rfl,jI,rfl⟩))
 have hn:=nanOf_prW w'
 generalize nanOf w' = n0 at *
 refine (aQ B v l m 15 _ (dt (ch (bL (U HS)) _) 1).1 (by omega) (by omega) (by omega)).mono ?_
 rintro e w1 ⟨y,rfl,hy0',kX,hE⟩
 obtain ⟨k,rfl⟩:=Int.eq_ofNat_of_zero_le hy0'
 obtain ⟨z,uK,hz⟩:=float_rowT k n0 y0 w' 41 (by omega) hn jI
 have HE:=Y (show aA B w' v l (m + 3) w1 from ⟨hE.1,aP (aP (bD w' _ _) (gr_drewN _ 1 _)) hE.2⟩)
 have hc:=hE.2.cell (show (World.drewN _ 1).cell? _ = _ from hz) (by simp; omega)
 clear hE hz e1 e2 e3 e4
 go_wp2_with fail
 go_ret
 exact ⟨_,rfl,uK,U HE⟩
end Go.Proofs.YtbakanofkghmiaaGreat
namespace Go.Proofs.YtbakanofkghmiaaGreat
open Go.RowKit
def DrOk (c:Cm):Prop:=c.g.size ≤ 20∧PrW c.p
theorem rawCmd_drawn (B:Nat) (v:Value) (l:List Int) (m:Int) (w:World) (h:Src B w v l m) (hm:m ≤ 800000000) :
  Calls Tryz.prog 103 #[I B 0] w fun e w'=>∃ c:Cm,e = yl (.agg c.vs.toArray)∧DrOk c∧aA B w v l (m + 30) w':=by
 have HV:=Y (src_far h)
 have hB:=src_lt h
 have oq:Hid (DrC B w.heap.size w v l m (w.alloc (N (yv 0 0 0 0 0 0 0 ⟨#[]⟩).toArray 43))):=⟨ch (bL h) _,(bM w (yv 0 0 0 0 0 0 0 ⟨#[]⟩) 43).t⟩
 have hs0:w.heap.size < (w.alloc (N (yv 0 0 0 0 0 0 0 ⟨#[]⟩).toArray 43)).heap.size:=by simp
 clear h
 go_enter Tryz.func103,Tryz.ntmps103
 go_wp2_with fail
 generalize (w.alloc (N (yv 0 0 0 0 0 0 0 ⟨#[]⟩).toArray 43)) = W0 at oq hs0 ⊢
 refine (aQ B v l (m) 6 W0 (U oq).e.1 (by omega) (by omega) (by omega)).mono ?_
 rintro e W1 ⟨y1,rfl,-,-,hE⟩
 have qY:=Y (bm (U oq) hB hE hs0)
 have xz:w.heap.size < W1.heap.size:=yH hs0 hE.2.size
 clear hE oq hs0
 go_wp2_with fail
 refine (aQ B v l (m + 3) 4 W1 (U qY).e.1 (by omega) (by omega) (by omega)).mono ?_
 rintro e W2 ⟨y2,rfl,-,-,hE⟩
 have pe:=Y (bm (U qY) hB hE xz)
 have xZ:w.heap.size < W2.heap.size:=yH xz hE.2.size
 clear hE qY xz
 go_wp2_with fail
 refine (aQ B v l (m + 3 + 3) 7 W2 (U pe).e.1 (by omega) (by omega) (by omega)).mono ?_
 rintro e W3 ⟨y3,rfl,-,-,hE⟩
 have HD3:=Y (bm (U pe) hB hE xZ)
 have jr:w.heap.size < W3.heap.size:=yH xZ hE.2.size
 clear hE pe xZ
 go_wp2_with fail
 refine (aQ B v l (m + 3 + 3 + 3) 3 W3 (U HD3).e.1 (by omega) (by omega) (by omega)).mono ?_
 rintro e W4 ⟨y4,rfl,-,-,hE⟩
 have HD4:=Y (bm (U HD3) hB hE jr)
 have hs4:w.heap.size < W4.heap.size:=yH jr hE.2.size
 clear hE HD3 jr
 go_wp2_with fail
 refine (number_drawn B v l (m + 3 + 3 + 3 + 3) W4 (U HD4).e.1 (by omega)).mono ?_
 rintro e W5 ⟨y5,rfl,-,-,hE⟩
 have HD5:=Y (bm (U HD4) hB hE hs4)
 have hs5:w.heap.size < W5.heap.size:=yH hs4 hE.2.size
 clear hE HD4 hs4
 go_wp2_with fail
 refine (aQ B v l (m + 3 + 3 + 3 + 3 + 6) 3 W5 (U HD5).e.1 (by omega) (by omega) (by omega)).mono ?_
 rintro e W6 ⟨y6,rfl,-,-,hE⟩
 have HD6:=Y (bm (U HD5) hB hE hs5)
 have hs6:w.heap.size < W6.heap.size:=yH hs5 hE.2.size
 clear hE HD5 hs5
 go_wp2_with fail
 refine (float_drawnT B v l (m + 3 + 3 + 3 + 3 + 6 + 3) W6 (U HD6).e.1 (by omega)).mono ?_
 rintro e W7 ⟨y7,rfl,hy7,hE⟩
 have HD7:=Y (bm (U HD6) hB hE hs6)
 have hs7:w.heap.size < W7.heap.size:=yH hs6 hE.2.size
 clear hE HD6 hs6
 go_wp2_with fail
 refine (tag_drawn B v l (m + 3 + 3 + 3 + 3 + 6 + 3 + 3) W7 (U HD7).e.1 (by omega)).mono ?_
 rintro e W8 ⟨y8,rfl,hy8,hE⟩
 have HD8:=Y (bm (U HD7) hB hE hs7)
 have hs8:w.heap.size < W8.heap.size:=yH hs7 hE.2.size
 clear hE HD7 hs7
 have jG:=Y (U HD8).t
 have uH:Hid ((W8.setCells w.heap.size 0 (yv y1 y2 y3 y4 y5 y6 y7 y8)).rangeAt w.heap.size 0 (yv y1 y2 y3 y4 y5 y6 y7 y8)):=yV _ _ _ _ (U HD8).t
 have qD:Hid (aA B w v l (m + 3 + 3 + 3 + 3 + 6 + 3 + 3 + 3) (W8.setCells w.heap.size 0 (yv y1 y2 y3 y4 y5 y6 y7 y8))):=cM (U HV) (U HD8).e hB hb _
 try dsimp only
 rename_i K1 py K2 qP
 refine qP _ _ ?_
 have xq:=Y py
 clear py qP
 refine wpList_step fun K3 vU=>?_
 have vB:=Y vU
 clear vU
 rw [if_pos (by rfl)];unfold Oper.wp;go_simp
 refine U vB _ _ ?_
 clear vB
 refine wpList_store_mid rfl 43 (.tmp 2) (.tmp 19) rfl w.heap.size 0 (yv y1 y2 y3 y4 y5 y6 y7 y8).toArray rfl rfl (U jG) (by kernel_rfl) (by simp [Value.oneCell']) ?_
 change wpList _ _ _ _ _ (W8.setCells w.heap.size 0 (yv y1 y2 y3 y4 y5 y6 y7 y8))
 generalize W8.setCells w.heap.size 0 (yv y1 y2 y3 y4 y5 y6 y7 y8) = WF at uH qD ⊢
 have py:=U xq
 go_wp2_with fail
 have d0:=U uH 0 _ rfl
 have d1:=U uH 1 _ rfl
 have d2:=U uH 2 _ rfl
 have d3:=U uH 3 _ rfl
 have d4:=U uH 4 _ rfl
 have d5:=U uH 5 _ rfl
 have d6:=U uH 6 _ rfl
 have d7:=U uH 7 _ rfl
 simp only [Nat.zero_add] at d0 d1 d2 d3 d4 d5 d6 d7
 refine bodyPost_ret (by simp [results,Tryz.results103,go_sem,d0,d1,d2,d3,d4,d5,d6,d7]; try rfl) rfl ?_
 exact ⟨⟨y1,y2,y3,y4,y5,y6,y7,y8⟩,rfl,⟨hy8,hy7⟩,bp (U qD).1 (by omega),(U qD).2⟩
structure Od where
  id:Int
  side:Int
  ticks:Int
  left:Int
  life:Int
  tag:ByteArray
structure Nd where
  side:Int
  ticks:Int
  qty:Int
  count:Int
  be:Nat
  wo:Nat
  el:Nat
  yo:Nat
structure Qo where
  od:Od
  yg:Nat
structure TS where
  root:Nat
  lc:Nat
  oc:Nat
  nd:Nat→Nd
  qo:Nat→Qo
inductive Tr where
  | nil:Tr
  | node (h:Nat) (l r:Tr):Tr
def zOd:Od:=⟨0,0,0,0,0,⟨#[]⟩⟩
def zNd:Nd:=⟨0,0,0,0,0,0,0,0⟩
def zQo:Qo:=⟨zOd,0⟩
def zTS:TS:=⟨0,0,0,fun _=>zNd,fun _=>zQo⟩
def bt:Bool→Int→Int→Prop
  | true,a,b=>b < a
  | false,a,b=>a < b
theorem bV (s:Bool) (a:Int):¬ bt s a a:=by cases s <;> simp [bt]
theorem bt_trans {s:Bool} {a b c:Int} (G:bt s a b) (D:bt s b c):bt s a c:=by cases s <;> simp only [bt] at * <;> omega
theorem bt_total (s:Bool) (a b:Int):bt s a b ∨ a = b ∨ bt s b a:=by cases s <;> simp only [bt] <;> omega
theorem bt_asymm {s:Bool} {a b:Int} (G:bt s a b):¬ bt s b a:=by cases s <;> simp only [bt] at * <;> omega
instance (s:Bool) (a b:Int):Decidable (bt s a b):=by cases s <;> (unfold bt; infer_instance)
def Tr.hs:Tr→List Nat
  | .nil=>[]
  | .node h l r=>l.hs ++ h :: r.hs
def Rep (nd:Nat→Nd):Tr→Nat→Prop
  | .nil,v=>v = 0
  | .node h l r,v=>v = h∧0 < h∧Rep nd l (nd h).be∧Rep nd r (nd h).wo
theorem cV {nd nd':Nat→Nd}:∀ {t:Tr} {v:Nat},(∀ h ∈ t.hs,(nd' h).be = (nd h).be∧(nd' h).wo = (nd h).wo)→Rep nd t v→Rep nd' t v
  | .nil,_,_,h=>h
  | .node h l r,v,hc,⟨G,D,h3,h4⟩=>by
    have hh:=hc h (by simp [Tr.hs])
    refine ⟨G,D,?_,?_⟩
    · rw [hh.1]; exact cV (fun a ha=>hc a (by simp [Tr.hs,ha])) h3
    · rw [hh.2]; exact cV (fun a ha=>hc a (by simp [Tr.hs,ha])) h4
theorem rep_nil {nd:Nat→Nd} {t:Tr} (h:Rep nd t 0):t = .nil:=by
  cases t with
  | nil=>rfl
  | node a l r=>obtain ⟨G,D,_⟩:=h; omega
theorem rep_node {nd:Nat→Nd} {t:Tr} {v:Nat} (h:Rep nd t v) (hv:v ≠ 0):∃ l r,t = .node v l r∧Rep nd l (nd v).be∧Rep nd r (nd v).wo:=by
  cases t with
  | nil=>exact absurd h hv
  | node a l r=>obtain ⟨rfl,_,h3,h4⟩:=h; exact ⟨l,r,rfl,h3,h4⟩
inductive Cur where
  | root:Cur
  | be (h:Nat):Cur
  | wo (h:Nat):Cur
def TS.rd (S:TS):Cur→Nat
  | .root=>S.root
  | .be h=>(S.nd h).be
  | .wo h=>(S.nd h).wo
def upd {α:Type} (f:Nat→α) (i:Nat) (x:α):Nat→α:=fun j=>if j = i then x else f j
theorem zn {α:Type} (f:Nat→α) (i:Nat) (x:α):upd f i x i = x:=by simp [upd]
theorem zp {α:Type} (f:Nat→α) {i j:Nat} (x:α) (h:j ≠ i):upd f i x j = f j:=by simp [upd,h]
def TS.wr (S:TS) (n:Nat):Cur→TS
  | .root=>{ S with root:=n }
  | .be h=>{ S with nd:=upd S.nd h { S.nd h with be:=n } }
  | .wo h=>{ S with nd:=upd S.nd h { S.nd h with wo:=n } }
abbrev Ctx:=List (Bool × Nat × Tr)
def plug:Ctx→Tr→Tr
  | [],s=>s
  | (true,h,r) :: c,s=>plug c (.node h s r)
  | (false,h,l) :: c,s=>plug c (.node h l s)
def zV:Ctx→Cur
  | []=>.root
  | (true,h,_) :: _=>.be h
  | (false,h,_) :: _=>.wo h
def cl:Ctx→List Nat
  | []=>[]
  | (true,_,_) :: c=>cl c
  | (false,h,l) :: c=>cl c ++ (l.hs ++ [h])
def cr:Ctx→List Nat
  | []=>[]
  | (true,h,r) :: c=>h :: r.hs ++ cr c
  | (false,_,_) :: c=>cr c
theorem cP:∀ (c:Ctx) (s:Tr),(plug c s).hs = cl c ++ (s.hs ++ cr c)
  | [],s=>by simp [plug,cl,cr]
  | (true,h,r) :: c,s=>by rw [plug,cP c]; simp [Tr.hs,cl,cr]
  | (false,h,l) :: c,s=>by rw [plug,cP c]; simp [Tr.hs,cl,cr]
def RepC (nd:Nat→Nd):Ctx→Nat→Nat→Prop
  | [],root,v=>v = root
  | (true,h,r) :: c,root,v=>v = (nd h).be∧0 < h∧Rep nd r (nd h).wo∧RepC nd c root h
  | (false,h,l) :: c,root,v=>v = (nd h).wo∧0 < h∧Rep nd l (nd h).be∧RepC nd c root h
theorem rep_plug {nd:Nat→Nd} {root:Nat}:∀ (c:Ctx) (s:Tr) (v:Nat),RepC nd c root v→Rep nd s v→Rep nd (plug c s) root
  | [],s,v,h,hs=>by rw [← h]; exact hs
  | (true,a,r) :: c,s,v,⟨G,D,h3,h4⟩,hs=>rep_plug c (.node a s r) a h4 ⟨rfl,D,G ▸ hs,h3⟩
  | (false,a,l) :: c,s,v,⟨G,D,h3,h4⟩,hs=>rep_plug c (.node a l s) a h4 ⟨rfl,D,h3,G ▸ hs⟩
theorem dK {nd nd':Nat→Nd}:∀ {c:Ctx} {root v:Nat},(∀ h ∈ cl c ++ cr c,(nd' h).be = (nd h).be∧(nd' h).wo = (nd h).wo)→RepC nd c root v→RepC nd' c root v
  | [],_,_,_,h=>h
  | (true,a,r) :: c,root,v,hc,⟨G,D,h3,h4⟩=>by
    have ha:=hc a (by simp [cr])
    refine ⟨by rw [ha.1]; exact G,D,by rw [ha.2]; exact cV (fun b O=>hc b (by simp [cr,O])) h3,dK (fun b O=>hc b ?_) h4⟩
    simp [cl,cr] at O ⊢; rcases O with O | O <;> simp [O]
  | (false,a,l) :: c,root,v,hc,⟨G,D,h3,h4⟩=>by
    have ha:=hc a (by simp [cl])
    refine ⟨by rw [ha.2]; exact G,D,by rw [ha.1]; exact cV (fun b O=>hc b (by simp [cl,O])) h3,dK (fun b O=>hc b ?_) h4⟩
    simp [cl,cr] at O ⊢; rcases O with O | O <;> simp [O]
theorem rep_wr {S:TS} {c:Ctx} {v n:Nat} (h:RepC S.nd c S.root v) (hd:(cl c ++ cr c).Nodup):RepC (S.wr n (zV c)).nd c (S.wr n (zV c)).root n:=by
  match c,h,hd with
  | [],h,_=>rfl
  | (true,a,r) :: c,⟨G,D,h3,h4⟩,hd =>
    simp only [cl,cr] at hd
    rw [List.nodup_append] at hd
    obtain ⟨d1,d2,d3⟩:=hd
    simp only [List.cons_append,List.nodup_cons,List.mem_append,not_or] at d2
    have xA:∀ b,b ∈ r.hs ∨ b ∈ cl c ∨ b ∈ cr c→b ≠ a:=by
      rintro b (O | O | O) rfl
      · exact d2.1.1 O
      · exact d3 b O b (by simp) rfl
      · exact d2.1.2 O
    simp only [zV,TS.wr]
    refine ⟨by simp [upd],D,?_,?_⟩
    · simp only [zn]
      exact cV (fun b O=>by rw [zp _ _ (xA b (.inl O))]; exact ⟨rfl,rfl⟩) h3
    · exact dK (fun b O=>by rw [zp _ _ (xA b (.inr (by simpa using O)))]; exact ⟨rfl,rfl⟩) h4
  | (false,a,l) :: c,⟨G,D,h3,h4⟩,hd =>
    simp only [cl,cr] at hd
    rw [List.nodup_append] at hd
    obtain ⟨d1,d2,d3⟩:=hd
    rw [List.nodup_append] at d1
    obtain ⟨d4,d5,d6⟩:=d1
    rw [List.nodup_append] at d5
    obtain ⟨d7,d8,d9⟩:=d5
    have xA:∀ b,b ∈ l.hs ∨ b ∈ cl c ∨ b ∈ cr c→b ≠ a:=by
      rintro b (O | O | O) rfl
      · exact d9 b O b (by simp) rfl
      · exact d6 b O b (by simp) rfl
      · exact d3 b (by simp) b O rfl
    simp only [zV,TS.wr]
    refine ⟨by simp [upd],D,?_,?_⟩
    · simp only [zn]
      exact cV (fun b O=>by rw [zp _ _ (xA b (.inl O))]; exact ⟨rfl,rfl⟩) h3
    · exact dK (fun b O=>by rw [zp _ _ (xA b (.inr (by simpa using O)))]; exact ⟨rfl,rfl⟩) h4
structure TI (s:Bool) (S:TS) (t:Tr):Prop where
  rep:Rep S.nd t S.root
  nodup:t.hs.Nodup
  range:∀ h ∈ t.hs,1 ≤ h∧h ≤ S.lc
  len:t.hs.length = S.lc
  sorted:t.hs.Pairwise (fun a b=>bt s (S.nd a).ticks (S.nd b).ticks)
  fresh:∀ h,S.lc < h→S.nd h = zNd
structure Way (s:Bool) (S:TS) (t:Tr) (k:Int) (c:Ctx) (u:Tr):Prop where
  plug:t = plug c u
  repC:RepC S.nd c S.root (S.rd (zV c))
  rep:Rep S.nd u (S.rd (zV c))
  left:∀ a ∈ cl c,bt s (S.nd a).ticks k
  right:∀ a ∈ cr c,bt s k (S.nd a).ticks
theorem way_start {s:Bool} {S:TS} {t:Tr} (h:TI s S t) (k:Int):Way s S t k [] t :=
  ⟨rfl,rfl,h.rep,by simp [cl],by simp [cr]⟩
theorem way_pair {s:Bool} {S:TS} {a:Nat} {l r:Tr} {c:Ctx} (h:(plug c (.node a l r)).hs.Pairwise (fun a b=>bt s (S.nd a).ticks (S.nd b).ticks)) :
    (∀ b ∈ l.hs,bt s (S.nd b).ticks (S.nd a).ticks)∧(∀ b ∈ r.hs,bt s (S.nd a).ticks (S.nd b).ticks):=by
  rw [cP,Tr.hs] at h
  have D:=(List.pairwise_append.1 (List.pairwise_append.1 h).2.1).1
  obtain ⟨_,h3,h4⟩:=List.pairwise_append.1 D
  exact ⟨fun b O=>h4 b O a (by simp),(List.pairwise_cons.1 h3).1⟩
theorem way_be {s:Bool} {S:TS} {t:Tr} {k:Int} {c:Ctx} {u:Tr} {a:Nat} (hi:TI s S t) (h:Way s S t k c u) (ha:S.rd (zV c) = a) (h0:a ≠ 0) (hk:bt s k (S.nd a).ticks) :
    ∃ l r,u = .node a l r∧Way s S t k ((true,a,r) :: c) l:=by
  obtain ⟨G,D,h3,h4,h5⟩:=h
  rw [ha] at D h3
  obtain ⟨l,r,rfl,h6,h7⟩:=rep_node h3 h0
  have hp:=way_pair (by rw [← G]; exact hi.sorted)
  refine ⟨l,r,rfl,G,⟨rfl,by omega,h7,D⟩,h6,h4,fun b O=>?_⟩
  simp only [cr,List.cons_append,List.mem_cons,List.mem_append] at O
  rcases O with rfl | O | O
  · exact hk
  · exact bt_trans hk (hp.2 b O)
  · exact h5 b O
theorem way_wo {s:Bool} {S:TS} {t:Tr} {k:Int} {c:Ctx} {u:Tr} {a:Nat} (hi:TI s S t) (h:Way s S t k c u) (ha:S.rd (zV c) = a) (h0:a ≠ 0) (hk:bt s (S.nd a).ticks k) :
    ∃ l r,u = .node a l r∧Way s S t k ((false,a,l) :: c) r:=by
  obtain ⟨G,D,h3,h4,h5⟩:=h
  rw [ha] at D h3
  obtain ⟨l,r,rfl,h6,h7⟩:=rep_node h3 h0
  have hp:=way_pair (by rw [← G]; exact hi.sorted)
  refine ⟨l,r,rfl,G,⟨rfl,by omega,h6,D⟩,h7,fun b O=>?_,h5⟩
  simp only [cl,List.mem_append,List.mem_cons,List.not_mem_nil,or_false] at O
  rcases O with O | O | rfl
  · exact h4 b O
  · exact bt_trans (hp.1 b O) hk
  · exact hk
theorem way_at {s:Bool} {S:TS} {t:Tr} {k:Int} {c:Ctx} {u:Tr} {a:Nat} (h:Way s S t k c u) (ha:S.rd (zV c) = a) (h0:a ≠ 0):a ∈ t.hs:=by
  obtain ⟨G,D,h3,_⟩:=h
  rw [ha] at h3
  obtain ⟨l,r,rfl,_⟩:=rep_node h3 h0
  rw [G,cP]; simp [Tr.hs]
def TS.grow (S:TS) (cu:Cur) (sd k:Int):TS :=
  let S1:=S.wr (S.lc + 1) cu
  { S1 with lc:=S.lc + 1,nd:=upd S1.nd (S.lc + 1) { S1.nd (S.lc + 1) with side:=sd,ticks:=k,qty:=0,count:=0 } }
theorem et (S:TS) (n:Nat) (cu:Cur) (a:Nat):((S.wr n cu).nd a).ticks = (S.nd a).ticks:=by
  cases cu with
  | root=>rfl
  | be h=>simp only [TS.wr,upd]; split <;> simp_all
  | wo h=>simp only [TS.wr,upd]; split <;> simp_all
theorem wr_nd_out (S:TS) (n:Nat) (c:Ctx) (a:Nat) (ha:a ∉ cl c ++ cr c):(S.wr n (zV c)).nd a = S.nd a:=by
  match c,ha with
  | [],_=>rfl
  | (true,b,r) :: c,ha=>simp only [zV,TS.wr]; exact zp _ _ (fun e=>ha (by simp [cl,cr,e]))
  | (false,b,l) :: c,ha=>simp only [zV,TS.wr]; exact zp _ _ (fun e=>ha (by simp [cl,cr,e]))
theorem wr_same (S:TS) (n:Nat) (cu:Cur):(S.wr n cu).lc = S.lc∧(S.wr n cu).oc = S.oc∧(S.wr n cu).qo = S.qo:=by
  cases cu <;> exact ⟨rfl,rfl,rfl⟩
theorem wr_nd_rest (S:TS) (n:Nat) (cu:Cur) (a:Nat):((S.wr n cu).nd a).side = (S.nd a).side∧((S.wr n cu).nd a).qty = (S.nd a).qty∧((S.wr n cu).nd a).count = (S.nd a).count∧((S.wr n cu).nd a).el = (S.nd a).el∧((S.wr n cu).nd a).yo = (S.nd a).yo:=by
  cases cu with
  | root=>exact ⟨rfl,rfl,rfl,rfl,rfl⟩
  | be h=>simp only [TS.wr,upd]; split <;> simp_all
  | wo h=>simp only [TS.wr,upd]; split <;> simp_all
theorem ti_grow {s:Bool} {S:TS} {t:Tr} {k sd:Int} {c:Ctx} {u:Tr} (hi:TI s S t) (h:Way s S t k c u) (h0:S.rd (zV c) = 0) :
    TI s (S.grow (zV c) sd k) (plug c (.node (S.lc + 1) .nil .nil))∧t.hs = cl c ++ cr c∧(∀ a ∈ t.hs,(S.nd a).ticks ≠ k):=by
  obtain ⟨G,D,h3,h4,h5⟩:=h
  rw [h0] at h3
  obtain rfl:=rep_nil h3
  have ht:t.hs = cl c ++ cr c:=by rw [G,cP]; simp [Tr.hs]
  have kT:S.lc + 1 ∉ cl c ++ cr c:=by
    rw [← ht]; intro hm; have:=(hi.range _ hm).2; omega
  have qS:=hi.nodup
  rw [ht] at qS
  have hz:(S.grow (zV c) sd k).nd (S.lc + 1) = { zNd with side:=sd,ticks:=k }:=by
    show upd _ _ _ _ = _
    rw [zn,wr_nd_out S _ c _ kT,hi.fresh _ (by omega)]
    rfl
  have hrc:=rep_wr (n:=S.lc + 1) D qS
  have hag:∀ b ∈ cl c ++ cr c,(S.grow (zV c) sd k).nd b = (S.wr (S.lc + 1) (zV c)).nd b:=fun b O=>zp _ _ (fun e=>kT (e ▸ O))
  have hhs:(plug c (.node (S.lc + 1) .nil .nil)).hs = cl c ++ (S.lc + 1) :: cr c:=by rw [cP]; simp [Tr.hs]
  have oL:∀ b ∈ cl c ++ cr c,((S.grow (zV c) sd k).nd b).ticks = (S.nd b).ticks:=fun b O=>by rw [hag b O,et]
  have oX:=hi.sorted
  rw [ht] at oX
  refine ⟨⟨?_,?_,?_,?_,?_,?_⟩,ht,?_⟩
  · refine rep_plug c _ (S.lc + 1) (dK (fun b O=>by rw [hag b O]; exact ⟨rfl,rfl⟩) hrc) ⟨rfl,by omega,?_,?_⟩ <;> rw [hz] <;> rfl
  · rw [hhs]
    rw [List.nodup_append] at qS ⊢
    obtain ⟨d1,d2,d3⟩:=qS
    refine ⟨d1,List.nodup_cons.2 ⟨fun hm=>kT (by simp [hm]),d2⟩,?_⟩
    intro a ha b O
    rcases List.mem_cons.1 O with rfl | O
    · rintro rfl; exact kT (by simp [ha])
    · exact d3 a ha b O
  · rw [hhs]
    intro a ha
    have qq:(S.grow (zV c) sd k).lc = S.lc + 1:=rfl
    rw [qq]
    simp only [List.mem_append,List.mem_cons] at ha
    rcases ha with ha | rfl | ha
    · have:=hi.range a (by rw [ht]; simp [ha]); omega
    · omega
    · have:=hi.range a (by rw [ht]; simp [ha]); omega
  · rw [hhs]
    have:=hi.len
    rw [ht] at this
    show _ = S.lc + 1
    simp at this ⊢; omega
  · rw [hhs,List.pairwise_append]
    rw [List.pairwise_append] at oX
    obtain ⟨d1,d2,d3⟩:=oX
    refine ⟨d1.imp_of_mem fun {a b} ha O hab=>?_,List.pairwise_cons.2 ⟨fun b O=>?_,d2.imp_of_mem fun {a b} ha O hab=>?_⟩,fun a ha b O=>?_⟩
    · rw [oL a (by simp [ha]),oL b (by simp [O])]; exact hab
    · rw [hz,oL b (by simp [O])]; exact h5 b O
    · rw [oL a (by simp [ha]),oL b (by simp [O])]; exact hab
    · rw [oL a (by simp [ha])]
      rcases List.mem_cons.1 O with rfl | O
      · rw [hz]; exact h4 a ha
      · rw [oL b (by simp [O])]; exact d3 a ha b O
  · intro h hh
    have hh':S.lc + 1 < h:=hh
    show upd _ _ _ _ = _
    rw [zp _ _ (by omega),wr_nd_out S _ c _ (by rw [← ht]; intro hm; have:=(hi.range _ hm).2; omega),hi.fresh _ (by omega)]
  · intro a ha
    rw [ht,List.mem_append] at ha
    rcases ha with ha | ha
    · intro e; have:=h4 a ha; rw [e] at this; exact bV _ _ this
    · intro e; have:=h5 a ha; rw [e] at this; exact bV _ _ this
end Go.Proofs.YtbakanofkghmiaaGreat
