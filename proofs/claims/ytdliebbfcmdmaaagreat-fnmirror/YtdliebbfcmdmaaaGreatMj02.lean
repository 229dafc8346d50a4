/-
  Rows of records in memory (slices of structs), those that came in and those that the call made: what they read as, and what stays of them; no function walked.
-/
import Derived.Test.YtdliebbfcmdmaaaGreatMj01
set_option linter.unusedVariables false
set_option maxHeartbeats 6400000
set_option maxRecDepth 100000
namespace Go.Proofs.YtdliebbfcmdmaaaGreat
open Go.RowKit
theorem zb {C:Nat} {w w':World} {b o:Nat} {cs:List Value} (h:w.rangeAt b o cs) (L:Below C w w') (hC:b < C):w'.rangeAt b o cs :=
 fun j v hv=>(L.cell (p:=(J b (o + j))) hC).trans (h j v hv)
theorem zf {C:Nat} {w w':World} {b o n:Nat} (h:w.there b o n) (L:Below C w w') (hC:b < C):w'.there b o n :=
 fun j R=>⟨by rw [L.cell (p:=(J b (o + j))) hC]; exact (h j R).1,by rw [L.frozen (p:=(J b (o + j))) hC]; exact (h j R).2⟩
theorem zq {G:Option Nat} {w w':World} {b o:Nat} {cs:List Value} (h:w.rangeAt b o cs) (hg:w.grownBy w' G) (L:b < w.heap.size) (xB:some b ≠ G):w'.rangeAt b o cs :=
 fun j v hv=>(yQ (a:=(J b (o + j))) (hg.block b L xB)).trans (h j v hv)
theorem zZ {G:Option Nat} {w w':World} {b o n:Nat} (h:w.there b o n) (hg:w.grownBy w' G) (L:b < w.heap.size) (xB:some b ≠ G):w'.there b o n :=
 fun j R=>⟨by rw [yQ (a:=(J b (o + j))) (hg.block b L xB)]; exact (h j R).1,by rw [World.frozen?_of_block (a:=(J b (o + j))) (hg.block b L xB)]; exact (h j R).2⟩
theorem zX {w w':World} {B:Nat} {G:Option Nat} (h:Below B w w') (hB:w.heap.size ≤ B):w.grownBy w' G :=
 ⟨h.os,h.tape,h.output,h.size,fun k hk _=>h.block k (by omega)⟩
theorem gr_below' {w w':World} {G:Option Nat} {B:Nat} (h:w.grownBy w' G) (hG:∀ g,G = some g→B ≤ g) (hs:B ≤ w.heap.size):Below B w w' :=
 ⟨h.os,h.tape,h.output,h.size,fun k hk=>h.block k (by omega) (fun e=>by have:=hG k e.symm; omega)⟩
section
variable {α:Type} (f:α→List Value) (sz:Nat)

def RdR (w:World) (v:Value) (l:List α):Prop :=
 ∃ (a:Option Addr) (A:Nat),v = .slice a l.length A∧l.length ≤ 1073741824 ∧
  (l ≠ []→∃ b off,a = some (J b off)∧b < w.heap.size∧∀ i c,l[i]? = some c→w.rangeAt b (off + i * sz) (f c))
def OwnR (B:Nat) (w:World) (v:Value) (l:List α):Prop :=
 ∃ (a:Option Addr) (A:Nat),v = .slice a l.length A∧l.length ≤ 1073741824 ∧
  (l ≠ []→∃ g,a = some (J g 0)∧B ≤ g∧g < w.heap.size∧(∀ i c,l[i]? = some c→w.rangeAt g (0 + i * sz) (f c))∧w.there g 0 (l.length * sz))
variable {f sz}

theorem ownR_rd {B:Nat} {w:World} {v:Value} {l:List α} (h:OwnR f sz B w v l):RdR f sz w v l:=by
 obtain ⟨a,A,rfl,hl,h⟩:=h
 refine ⟨a,A,rfl,hl,fun xB=>?_⟩
 obtain ⟨g,rfl,_,N,h3,_⟩:=h xB
 exact ⟨g,0,rfl,N,h3⟩
theorem zl {C:Nat} {w w':World} {v:Value} {l:List α} (h:RdR f sz w v l) (L:Below C w w') (hC:w.heap.size ≤ C):RdR f sz w' v l:=by
 obtain ⟨a,A,rfl,hl,h⟩:=h
 refine ⟨a,A,rfl,hl,fun xB=>?_⟩
 obtain ⟨b,off,rfl,Q,N⟩:=h xB
 exact ⟨b,off,rfl,yJ Q L.size,fun i c hc=>zb (N i c hc) L (yJ Q hC)⟩
theorem zm {B:Nat} {w:World} (b:Nat) (L:B ≤ b):∀ (vs:List Value) (o:Nat) (wr:World),Below B w wr→Below B w (wr.setCells b o vs)
 | [],_,_,h=>h
 | v :: r,o,wr,h=>by rw [World.setCells]; exact zm b L r (o + 1) _ (h.setCell (show B ≤ ((J b o):Addr).block from L) v)
theorem bM (b:Nat):∀ (vs:List Value) (o:Nat) (wr:World),(wr.setCells b o vs).heap.size = wr.heap.size
 | [],_,_=>rfl
 | v :: r,o,wr=>by rw [World.setCells,bM b r (o + 1)]; simp [World.setCell]
theorem cn {w:World} {g n t:Nat} {xr:Array Value} (hg:w.heap[g]? = some (.cells xr t (0,0))) (hn:n ≤ xr.size):w.there g 0 n:=fun j R =>
 ⟨by rw [cell_of_row w g (0 + j) xr t (0,0) hg,Array.getElem?_eq_getElem (by omega)]; rfl,by simp [World.frozen?,hg]⟩
theorem flat_get (hf:∀ c,(f c).length = sz):∀ (l:List α) (i j:Nat) (c:α),l[i]? = some c→j < sz→(l.flatMap f)[i * sz + j]? = (f c)[j]?
 | [],_,_,_,h,_=>by simp at h
 | a :: l,0,j,c,h,R=>by
  simp at h; subst h
  rw [List.flatMap_cons,List.getElem?_append_left (by rw [hf]; omega)]; simp
 | a :: l,i + 1,j,c,h,R=>by
  simp at h
  rw [List.flatMap_cons,List.getElem?_append_right (by rw [hf,Nat.add_mul]; omega),hf,← flat_get hf l i j c h R]
  congr 1
  rw [Nat.add_mul]; omega
theorem zH (hf:∀ c,(f c).length = sz):∀ (l:List α),(l.flatMap f).length = l.length * sz
 | []=>by simp
 | a :: l=>by rw [List.flatMap_cons,yP,hf,zH hf l,List.length_cons,Nat.add_mul]; omega
theorem bS {B e:Nat} {w:World} {v:Value} {l:List α} (hf:∀ c,(f c).length = sz) (hl:l.length ≤ 1073741824) (h:w.ownsRow B e sz v l.length (l.flatMap f)):OwnR f sz B w v l:=by
 rcases h.2 with ⟨rfl,h0⟩ | ⟨g,A,xr,rfl,L,hg,vY,_,hcur,htake⟩
 ·exact ⟨none,0,by rw [h0],hl,fun xB=>absurd (List.length_eq_zero_iff.1 h0) xB⟩
 ·have kl:=Nat.mul_le_mul_right sz vY
  refine ⟨_,A,rfl,hl,fun _=>⟨g,rfl,L,(yY.1 hg).1,fun i c hc j u hu=>?_,cn hg (by omega)⟩⟩
  have R:j < sz:=by rw [← hf c]; exact (yG.1 hu).1
  have N:=flat_get hf l i j c hc R
  have xK:i * sz + j < l.length * sz:=by
   have:=Nat.mul_le_mul_right sz (show i + 1 ≤ l.length from (yG.1 hc).1)
   rw [Nat.add_mul] at this; omega
  rw [← htake,List.getElem?_take,if_pos xK] at N
  rw [cell_of_row w g _ xr e (0,0) hg,Nat.zero_add]
  simpa using N.trans hu
end
structure Cm where
 k:Int
 s:Int
 t:Int
 l:Int
 q:Int
 i:Int
 p:Nat
 g:ByteArray
def Cm.vs (c:Cm):List Value:=(yw c.k c.s c.t c.l c.q c.i c.p c.g)
theorem Cm.len (c:Cm):c.vs.length = 8:=rfl
theorem cm_cells {w:World} {b o:Nat} {c:Cm} (h:w.rangeAt b o c.vs) :
  w.cell? (J b o) = some (H c.k)∧w.cell? (J b (o + 1)) = some (H c.s)∧w.cell? (J b (o + 2)) = some (H c.t)∧w.cell? (J b (o + 3)) = some (H c.l) ∧
  w.cell? (J b (o + 4)) = some (H c.q)∧w.cell? (J b (o + 5)) = some (H c.i)∧w.cell? (J b (o + 6)) = some (yj c.p)∧w.cell? (J b (o + 7)) = some (yk c.g) :=
 ⟨h 0 _ rfl,h 1 _ rfl,h 2 _ rfl,h 3 _ rfl,h 4 _ rfl,h 5 _ rfl,h 6 _ rfl,h 7 _ rfl⟩
theorem zD {w:World} {b o n:Nat} (h:w.there b o n) (j:Nat) (R:j < n):∃ v,w.cell? (J b (o + j)) = some v∧w.frozen? (J b (o + j)) = false:=by
 obtain ⟨v,hv⟩:=Option.isSome_iff_exists.1 (h j R).1
 exact ⟨v,hv,(h j R).2⟩
theorem sfl (a:Addr) (x:Nat) (m:Mode) (w:World):(store a (yj x) m).run Tryz.prog w = stored Tryz.prog w a (yj x) m:=run_store _ w a _ m rfl
structure Od where
  id:Int
  side:Int
  ticks:Int
  left:Int
  life:Int
  tag:ByteArray
structure Nd where
  side:Int
  ticks:Int
  qty:Int
  count:Int
  be:Nat
  wo:Nat
  el:Nat
  yo:Nat
structure Qo where
  od:Od
  yg:Nat
structure TS where
  root:Nat
  lc:Nat
  oc:Nat
  nd:Nat→Nd
  qo:Nat→Qo
inductive Tr where
  | nil:Tr
  | node (h:Nat) (l r:Tr):Tr
def zOd:Od:=⟨0,0,0,0,0,⟨#[]⟩⟩
def zNd:Nd:=⟨0,0,0,0,0,0,0,0⟩
def zQo:Qo:=⟨zOd,0⟩
def zTS:TS:=⟨0,0,0,fun _=>zNd,fun _=>zQo⟩
def bt:Bool→Int→Int→Prop
  | true,a,b=>b < a
  | false,a,b=>a < b
theorem bt_irr (s:Bool) (a:Int):¬ bt s a a:=by cases s <;> simp [bt]
theorem bt_trans {s:Bool} {a b c:Int} (Q:bt s a b) (N:bt s b c):bt s a c:=by cases s <;> simp only [bt] at * <;> omega
theorem bt_total (s:Bool) (a b:Int):bt s a b ∨ a = b ∨ bt s b a:=by cases s <;> simp only [bt] <;> omega
theorem bt_asymm {s:Bool} {a b:Int} (Q:bt s a b):¬ bt s b a:=by cases s <;> simp only [bt] at * <;> omega
instance (s:Bool) (a b:Int):Decidable (bt s a b):=by cases s <;> (unfold bt; infer_instance)
def Tr.hs:Tr→List Nat
  | .nil=>[]
  | .node h l r=>l.hs ++ h :: r.hs
def Rep (nd:Nat→Nd):Tr→Nat→Prop
  | .nil,v=>v = 0
  | .node h l r,v=>v = h∧0 < h∧Rep nd l (nd h).be∧Rep nd r (nd h).wo
theorem cI {nd nd':Nat→Nd}:∀ {t:Tr} {v:Nat},(∀ h ∈ t.hs,(nd' h).be = (nd h).be∧(nd' h).wo = (nd h).wo)→Rep nd t v→Rep nd' t v
  | .nil,_,_,h=>h
  | .node h l r,v,hc,⟨Q,N,h3,h4⟩=>by
    have hh:=hc h (by simp [Tr.hs])
    refine ⟨Q,N,?_,?_⟩
    · rw [hh.1]; exact cI (fun a ha=>hc a (by simp [Tr.hs,ha])) h3
    · rw [hh.2]; exact cI (fun a ha=>hc a (by simp [Tr.hs,ha])) h4
theorem rep_nil {nd:Nat→Nd} {t:Tr} (h:Rep nd t 0):t = .nil:=by
  cases t with
  | nil=>rfl
  | node a l r=>obtain ⟨Q,N,_⟩:=h; omega
theorem rep_node {nd:Nat→Nd} {t:Tr} {v:Nat} (h:Rep nd t v) (hv:v ≠ 0):∃ l r,t = .node v l r∧Rep nd l (nd v).be∧Rep nd r (nd v).wo:=by
  cases t with
  | nil=>exact absurd h hv
  | node a l r=>obtain ⟨rfl,_,h3,h4⟩:=h; exact ⟨l,r,rfl,h3,h4⟩
inductive Cur where
  | root:Cur
  | be (h:Nat):Cur
  | wo (h:Nat):Cur
def TS.rd (S:TS):Cur→Nat
  | .root=>S.root
  | .be h=>(S.nd h).be
  | .wo h=>(S.nd h).wo
def upd {α:Type} (f:Nat→α) (i:Nat) (x:α):Nat→α:=fun j=>if j = i then x else f j
theorem zn {α:Type} (f:Nat→α) (i:Nat) (x:α):upd f i x i = x:=by simp [upd]
theorem zo {α:Type} (f:Nat→α) {i j:Nat} (x:α) (h:j ≠ i):upd f i x j = f j:=by simp [upd,h]
def TS.wr (S:TS) (n:Nat):Cur→TS
  | .root=>{ S with root:=n }
  | .be h=>{ S with nd:=upd S.nd h { S.nd h with be:=n } }
  | .wo h=>{ S with nd:=upd S.nd h { S.nd h with wo:=n } }
abbrev Ctx:=List (Bool × Nat × Tr)
def plug:Ctx→Tr→Tr
  | [],s=>s
  | (true,h,r) :: c,s=>plug c (.node h s r)
  | (false,h,l) :: c,s=>plug c (.node h l s)
def zS:Ctx→Cur
  | []=>.root
  | (true,h,_) :: _=>.be h
  | (false,h,_) :: _=>.wo h
def cl:Ctx→List Nat
  | []=>[]
  | (true,_,_) :: c=>cl c
  | (false,h,l) :: c=>cl c ++ (l.hs ++ [h])
def cr:Ctx→List Nat
  | []=>[]
  | (true,h,r) :: c=>h :: r.hs ++ cr c
  | (false,_,_) :: c=>cr c
theorem cG:∀ (c:Ctx) (s:Tr),(plug c s).hs = cl c ++ (s.hs ++ cr c)
  | [],s=>by simp [plug,cl,cr]
  | (true,h,r) :: c,s=>by rw [plug,cG c]; simp [Tr.hs,cl,cr]
  | (false,h,l) :: c,s=>by rw [plug,cG c]; simp [Tr.hs,cl,cr]
def RepC (nd:Nat→Nd):Ctx→Nat→Nat→Prop
  | [],root,v=>v = root
  | (true,h,r) :: c,root,v=>v = (nd h).be∧0 < h∧Rep nd r (nd h).wo∧RepC nd c root h
  | (false,h,l) :: c,root,v=>v = (nd h).wo∧0 < h∧Rep nd l (nd h).be∧RepC nd c root h
theorem rep_plug {nd:Nat→Nd} {root:Nat}:∀ (c:Ctx) (s:Tr) (v:Nat),RepC nd c root v→Rep nd s v→Rep nd (plug c s) root
  | [],s,v,h,hs=>by rw [← h]; exact hs
  | (true,a,r) :: c,s,v,⟨Q,N,h3,h4⟩,hs=>rep_plug c (.node a s r) a h4 ⟨rfl,N,Q ▸ hs,h3⟩
  | (false,a,l) :: c,s,v,⟨Q,N,h3,h4⟩,hs=>rep_plug c (.node a l s) a h4 ⟨rfl,N,h3,Q ▸ hs⟩
theorem dr {nd nd':Nat→Nd}:∀ {c:Ctx} {root v:Nat},(∀ h ∈ cl c ++ cr c,(nd' h).be = (nd h).be∧(nd' h).wo = (nd h).wo)→RepC nd c root v→RepC nd' c root v
  | [],_,_,_,h=>h
  | (true,a,r) :: c,root,v,hc,⟨Q,N,h3,h4⟩=>by
    have ha:=hc a (by simp [cr])
    refine ⟨by rw [ha.1]; exact Q,N,by rw [ha.2]; exact cI (fun b L=>hc b (by simp [cr,L])) h3,dr (fun b L=>hc b ?_) h4⟩
    simp [cl,cr] at L ⊢; rcases L with L | L <;> simp [L]
  | (false,a,l) :: c,root,v,hc,⟨Q,N,h3,h4⟩=>by
    have ha:=hc a (by simp [cl])
    refine ⟨by rw [ha.2]; exact Q,N,by rw [ha.1]; exact cI (fun b L=>hc b (by simp [cl,L])) h3,dr (fun b L=>hc b ?_) h4⟩
    simp [cl,cr] at L ⊢; rcases L with L | L <;> simp [L]
theorem rep_wr {S:TS} {c:Ctx} {v n:Nat} (h:RepC S.nd c S.root v) (hd:(cl c ++ cr c).Nodup):RepC (S.wr n (zS c)).nd c (S.wr n (zS c)).root n:=by
  match c,h,hd with
  | [],h,_=>rfl
  | (true,a,r) :: c,⟨Q,N,h3,h4⟩,hd =>
    simp only [cl,cr] at hd
    rw [List.nodup_append] at hd
    obtain ⟨d1,d2,d3⟩:=hd
    simp only [List.cons_append,List.nodup_cons,List.mem_append,not_or] at d2
    have xB:∀ b,b ∈ r.hs ∨ b ∈ cl c ∨ b ∈ cr c→b ≠ a:=by
      rintro b (L | L | L) rfl
      · exact d2.1.1 L
      · exact d3 b L b (by simp) rfl
      · exact d2.1.2 L
    simp only [zS,TS.wr]
    refine ⟨by simp [upd],N,?_,?_⟩
    · simp only [zn]
      exact cI (fun b L=>by rw [zo _ _ (xB b (.inl L))]; exact ⟨rfl,rfl⟩) h3
    · exact dr (fun b L=>by rw [zo _ _ (xB b (.inr (by simpa using L)))]; exact ⟨rfl,rfl⟩) h4
  | (false,a,l) :: c,⟨Q,N,h3,h4⟩,hd =>
    simp only [cl,cr] at hd
    rw [List.nodup_append] at hd
    obtain ⟨d1,d2,d3⟩:=hd
    rw [List.nodup_append] at d1
    obtain ⟨d4,d5,d6⟩:=d1
    rw [List.nodup_append] at d5
    obtain ⟨d7,d8,d9⟩:=d5
    have xB:∀ b,b ∈ l.hs ∨ b ∈ cl c ∨ b ∈ cr c→b ≠ a:=by
      rintro b (L | L | L) rfl
      · exact d9 b L b (by simp) rfl
      · exact d6 b L b (by simp) rfl
      · exact d3 b (by simp) b L rfl
    simp only [zS,TS.wr]
    refine ⟨by simp [upd],N,?_,?_⟩
    · simp only [zn]
      exact cI (fun b L=>by rw [zo _ _ (xB b (.inl L))]; exact ⟨rfl,rfl⟩) h3
    · exact dr (fun b L=>by rw [zo _ _ (xB b (.inr (by simpa using L)))]; exact ⟨rfl,rfl⟩) h4
structure TI (s:Bool) (S:TS) (t:Tr):Prop where
  rep:Rep S.nd t S.root
  nodup:t.hs.Nodup
  range:∀ h ∈ t.hs,1 ≤ h∧h ≤ S.lc
  len:t.hs.length = S.lc
  sorted:t.hs.Pairwise (fun a b=>bt s (S.nd a).ticks (S.nd b).ticks)
  fresh:∀ h,S.lc < h→S.nd h = zNd
structure Way (s:Bool) (S:TS) (t:Tr) (k:Int) (c:Ctx) (u:Tr):Prop where
  plug:t = plug c u
  repC:RepC S.nd c S.root (S.rd (zS c))
  rep:Rep S.nd u (S.rd (zS c))
  left:∀ a ∈ cl c,bt s (S.nd a).ticks k
  right:∀ a ∈ cr c,bt s k (S.nd a).ticks
theorem way_start {s:Bool} {S:TS} {t:Tr} (h:TI s S t) (k:Int):Way s S t k [] t :=
  ⟨rfl,rfl,h.rep,by simp [cl],by simp [cr]⟩
theorem way_pair {s:Bool} {S:TS} {a:Nat} {l r:Tr} {c:Ctx} (h:(plug c (.node a l r)).hs.Pairwise (fun a b=>bt s (S.nd a).ticks (S.nd b).ticks)) :
    (∀ b ∈ l.hs,bt s (S.nd b).ticks (S.nd a).ticks)∧(∀ b ∈ r.hs,bt s (S.nd a).ticks (S.nd b).ticks):=by
  rw [cG,Tr.hs] at h
  have N:=(List.pairwise_append.1 (List.pairwise_append.1 h).2.1).1
  obtain ⟨_,h3,h4⟩:=List.pairwise_append.1 N
  exact ⟨fun b L=>h4 b L a (by simp),(List.pairwise_cons.1 h3).1⟩
theorem way_be {s:Bool} {S:TS} {t:Tr} {k:Int} {c:Ctx} {u:Tr} {a:Nat} (hi:TI s S t) (h:Way s S t k c u) (ha:S.rd (zS c) = a) (h0:a ≠ 0) (hk:bt s k (S.nd a).ticks) :
    ∃ l r,u = .node a l r∧Way s S t k ((true,a,r) :: c) l:=by
  obtain ⟨Q,N,h3,h4,h5⟩:=h
  rw [ha] at N h3
  obtain ⟨l,r,rfl,h6,h7⟩:=rep_node h3 h0
  have hp:=way_pair (by rw [← Q]; exact hi.sorted)
  refine ⟨l,r,rfl,Q,⟨rfl,by omega,h7,N⟩,h6,h4,fun b L=>?_⟩
  simp only [cr,List.cons_append,List.mem_cons,List.mem_append] at L
  rcases L with rfl | L | L
  · exact hk
  · exact bt_trans hk (hp.2 b L)
  · exact h5 b L
theorem way_wo {s:Bool} {S:TS} {t:Tr} {k:Int} {c:Ctx} {u:Tr} {a:Nat} (hi:TI s S t) (h:Way s S t k c u) (ha:S.rd (zS c) = a) (h0:a ≠ 0) (hk:bt s (S.nd a).ticks k) :
    ∃ l r,u = .node a l r∧Way s S t k ((false,a,l) :: c) r:=by
  obtain ⟨Q,N,h3,h4,h5⟩:=h
  rw [ha] at N h3
  obtain ⟨l,r,rfl,h6,h7⟩:=rep_node h3 h0
  have hp:=way_pair (by rw [← Q]; exact hi.sorted)
  refine ⟨l,r,rfl,Q,⟨rfl,by omega,h6,N⟩,h7,fun b L=>?_,h5⟩
  simp only [cl,List.mem_append,List.mem_cons,List.not_mem_nil,or_false] at L
  rcases L with L | L | rfl
  · exact h4 b L
  · exact bt_trans (hp.1 b L) hk
  · exact hk
theorem way_at {s:Bool} {S:TS} {t:Tr} {k:Int} {c:Ctx} {u:Tr} {a:Nat} (h:Way s S t k c u) (ha:S.rd (zS c) = a) (h0:a ≠ 0):a ∈ t.hs:=by
  obtain ⟨Q,N,h3,_⟩:=h
  rw [ha] at h3
  obtain ⟨l,r,rfl,_⟩:=rep_node h3 h0
  rw [Q,cG]; simp [Tr.hs]
def TS.grow (S:TS) (cu:Cur) (sd k:Int):TS :=
  let S1:=S.wr (S.lc + 1) cu
  { S1 with lc:=S.lc + 1,nd:=upd S1.nd (S.lc + 1) { S1.nd (S.lc + 1) with side:=sd,ticks:=k,qty:=0,count:=0 } }
theorem dV (S:TS) (n:Nat) (cu:Cur) (a:Nat):((S.wr n cu).nd a).ticks = (S.nd a).ticks:=by
  cases cu with
  | root=>rfl
  | be h=>simp only [TS.wr,upd]; split <;> simp_all
  | wo h=>simp only [TS.wr,upd]; split <;> simp_all
theorem wr_nd_out (S:TS) (n:Nat) (c:Ctx) (a:Nat) (ha:a ∉ cl c ++ cr c):(S.wr n (zS c)).nd a = S.nd a:=by
  match c,ha with
  | [],_=>rfl
  | (true,b,r) :: c,ha=>simp only [zS,TS.wr]; exact zo _ _ (fun e=>ha (by simp [cl,cr,e]))
  | (false,b,l) :: c,ha=>simp only [zS,TS.wr]; exact zo _ _ (fun e=>ha (by simp [cl,cr,e]))
theorem wr_same (S:TS) (n:Nat) (cu:Cur):(S.wr n cu).lc = S.lc∧(S.wr n cu).oc = S.oc∧(S.wr n cu).qo = S.qo:=by
  cases cu <;> exact ⟨rfl,rfl,rfl⟩
theorem wr_nd_rest (S:TS) (n:Nat) (cu:Cur) (a:Nat):((S.wr n cu).nd a).side = (S.nd a).side∧((S.wr n cu).nd a).qty = (S.nd a).qty∧((S.wr n cu).nd a).count = (S.nd a).count∧((S.wr n cu).nd a).el = (S.nd a).el∧((S.wr n cu).nd a).yo = (S.nd a).yo:=by
  cases cu with
  | root=>exact ⟨rfl,rfl,rfl,rfl,rfl⟩
  | be h=>simp only [TS.wr,upd]; split <;> simp_all
  | wo h=>simp only [TS.wr,upd]; split <;> simp_all
theorem ti_grow {s:Bool} {S:TS} {t:Tr} {k sd:Int} {c:Ctx} {u:Tr} (hi:TI s S t) (h:Way s S t k c u) (h0:S.rd (zS c) = 0) :
    TI s (S.grow (zS c) sd k) (plug c (.node (S.lc + 1) .nil .nil))∧t.hs = cl c ++ cr c∧(∀ a ∈ t.hs,(S.nd a).ticks ≠ k):=by
  obtain ⟨Q,N,h3,h4,h5⟩:=h
  rw [h0] at h3
  obtain rfl:=rep_nil h3
  have ht:t.hs = cl c ++ cr c:=by rw [Q,cG]; simp [Tr.hs]
  have kZ:S.lc + 1 ∉ cl c ++ cr c:=by
    rw [← ht]; intro hm; have:=(hi.range _ hm).2; omega
  have qR:=hi.nodup
  rw [ht] at qR
  have hz:(S.grow (zS c) sd k).nd (S.lc + 1) = { zNd with side:=sd,ticks:=k }:=by
    show upd _ _ _ _ = _
    rw [zn,wr_nd_out S _ c _ kZ,hi.fresh _ (by omega)]
    rfl
  have hrc:=rep_wr (n:=S.lc + 1) N qR
  have hag:∀ b ∈ cl c ++ cr c,(S.grow (zS c) sd k).nd b = (S.wr (S.lc + 1) (zS c)).nd b:=fun b L=>zo _ _ (fun e=>kZ (e ▸ L))
  have hhs:(plug c (.node (S.lc + 1) .nil .nil)).hs = cl c ++ (S.lc + 1) :: cr c:=by rw [cG]; simp [Tr.hs]
  have oT:∀ b ∈ cl c ++ cr c,((S.grow (zS c) sd k).nd b).ticks = (S.nd b).ticks:=fun b L=>by rw [hag b L,dV]
  have pf:=hi.sorted
  rw [ht] at pf
  refine ⟨⟨?_,?_,?_,?_,?_,?_⟩,ht,?_⟩
  · refine rep_plug c _ (S.lc + 1) (dr (fun b L=>by rw [hag b L]; exact ⟨rfl,rfl⟩) hrc) ⟨rfl,by omega,?_,?_⟩ <;> rw [hz] <;> rfl
  · rw [hhs]
    rw [List.nodup_append] at qR ⊢
    obtain ⟨d1,d2,d3⟩:=qR
    refine ⟨d1,List.nodup_cons.2 ⟨fun hm=>kZ (by simp [hm]),d2⟩,?_⟩
    intro a ha b L
    rcases List.mem_cons.1 L with rfl | L
    · rintro rfl; exact kZ (by simp [ha])
    · exact d3 a ha b L
  · rw [hhs]
    intro a ha
    have qn:(S.grow (zS c) sd k).lc = S.lc + 1:=rfl
    rw [qn]
    simp only [List.mem_append,List.mem_cons] at ha
    rcases ha with ha | rfl | ha
    · have:=hi.range a (by rw [ht]; simp [ha]); omega
    · omega
    · have:=hi.range a (by rw [ht]; simp [ha]); omega
  · rw [hhs]
    have:=hi.len
    rw [ht] at this
    show _ = S.lc + 1
    simp at this ⊢; omega
  · rw [hhs,List.pairwise_append]
    rw [List.pairwise_append] at pf
    obtain ⟨d1,d2,d3⟩:=pf
    refine ⟨d1.imp_of_mem fun {a b} ha L hab=>?_,List.pairwise_cons.2 ⟨fun b L=>?_,d2.imp_of_mem fun {a b} ha L hab=>?_⟩,fun a ha b L=>?_⟩
    · rw [oT a (by simp [ha]),oT b (by simp [L])]; exact hab
    · rw [hz,oT b (by simp [L])]; exact h5 b L
    · rw [oT a (by simp [ha]),oT b (by simp [L])]; exact hab
    · rw [oT a (by simp [ha])]
      rcases List.mem_cons.1 L with rfl | L
      · rw [hz]; exact h4 a ha
      · rw [oT b (by simp [L])]; exact d3 a ha b L
  · intro h hh
    have hh':S.lc + 1 < h:=hh
    show upd _ _ _ _ = _
    rw [zo _ _ (by omega),wr_nd_out S _ c _ (by rw [← ht]; intro hm; have:=(hi.range _ hm).2; omega),hi.fresh _ (by omega)]
  · intro a ha
    rw [ht,List.mem_append] at ha
    rcases ha with ha | ha
    · intro e; have:=h4 a ha; rw [e] at this; exact bt_irr _ _ this
    · intro e; have:=h5 a ha; rw [e] at this; exact bt_irr _ _ this
end Go.Proofs.YtdliebbfcmdmaaaGreat
