/-
  Rows of bytes in memory, those that came in and those that the call made: what they read as, and what stays of them; small facts on worlds, no function walked.
-/
import Derived.Test.YtdfihaabhichdaaGreatRj01
import Derived.Test.YtdfihaabhichdaaGreatRj02
import Derived.OpenShut
import Derived.Deep.QuietTactic
import Derived.BigQuiet
import Derived.WalkSmall
import Derived.WalkSpells
import Derived.Deep.MidRow
import Derived.Handy
import Derived.WalkLawsBesides
import Derived.Deep.RegionWith
import Derived.Deep.LoopGhost
import Derived.BigRegion
namespace Go.Proofs.YtdfihaabhichdaaGreat
open Go.RowKit

def Rd (w:World) (v:Value) (l:List Int):Prop :=
  ∃ (a:Option Addr) (cap:Nat),v = .slice a l.length cap∧l.length ≤ 1073741824 ∧
    (l ≠ []→∃ b off,a = some ⟨b,off,none⟩∧∀ i,i < l.length→w.cell? ⟨b,off + i,none⟩ = some (.int .u8 (l.getD i 0)))
theorem gr_trans {a b c:World} {row:Option Nat} (h:a.grownBy b row) (k:b.grownBy c row):a.grownBy c row :=
  ⟨k.os.trans h.os,k.tape.trans h.tape,k.output.trans h.output,Nat.le_trans h.size k.size,
    fun i hi hne=>(k.block i (Nat.lt_of_lt_of_le hi h.size) hne).trans (h.block i hi hne)⟩
theorem gr_set (w:World) (a:Addr) (u:Value):w.grownBy (w.setCell a u) (some a.block) :=
  ⟨rfl,rfl,rfl,by simp [World.setCell],fun k _ hne=>Below.heap_setCell _ _ _ _ (fun e=>hne (by rw [e]))⟩
theorem zac {g a b:Nat} (h:a ≠ b):(⟨g,a,none⟩:Addr) ≠ ⟨g,b,none⟩:=by
  intro e; injection e; exact h (by assumption)
def Own (B:Nat) (w:World) (v:Value) (l:List Int):Prop :=
  ∃ g cap,v = .slice (some ⟨g,0,none⟩) l.length cap∧B ≤ g∧g < w.heap.size∧l.length ≤ 1073741824 ∧
    (∀ i,i < l.length→w.cell? ⟨g,0 + i,none⟩ = some (.int .u8 (l.getD i 0)))∧∀ i,i < l.length→w.frozen? ⟨g,0 + i,none⟩ = false
def OwnT (B:Nat) (w:World) (v:Value) (l:List Int):Prop :=
  ∃ g cap cur t,v = .slice (some ⟨g,0,none⟩) l.length cap∧B ≤ g∧w.heap[g]? = some (.cells cur t (0,0))∧l.length ≤ cap∧cap ≤ cur.size∧cap ≤ maxLen∧l.length ≤ 1073741824 ∧
    cur.toList.take l.length = l.map (Value.int .u8)
theorem cell_head {w:World} {g t:Nat} {cur:Array Value} {l:List Int} (hg:w.heap[g]? = some (.cells cur t (0,0))) (ht:cur.toList.take l.length = l.map (Value.int .u8)) {i:Nat} (hi:i < l.length) :
    w.cell? ⟨g,i,none⟩ = some (.int .u8 (l.getD i 0)):=by
  rw [cell_of_row w g i cur t (0,0) hg]
  have h1:(cur.toList.take l.length)[i]? = (l.map (Value.int .u8))[i]?:=by rw [ht]
  rw [List.getElem?_take,if_pos hi,List.getElem?_map,List.getElem?_eq_getElem hi] at h1
  simpa [hi] using h1
theorem OwnT.own {B:Nat} {w:World} {v:Value} {l:List Int} (h:OwnT B w v l):Own B w v l:=by
  obtain ⟨g,cap,cur,t,rfl,hb,hg,_,_,_,hl,ht⟩:=h
  exact ⟨g,cap,rfl,hb,(Array.getElem?_eq_some_iff.1 hg).1,hl,fun i hi=>by rw [Nat.zero_add]; exact cell_head hg ht hi,fun i _=>by simp [World.frozen?,hg]⟩
theorem OwnT.ge {B:Nat} {w:World} {v:Value} {l:List Int} (h:OwnT B w v l):∀ k,v.ownBlock = some k→B ≤ k:=by
  obtain ⟨g,cap,cur,t,rfl,hb,_⟩:=h
  intro k hk
  simp [Value.ownBlock] at hk
  omega
def Arr (M B:Nat) (w wr:World) (done:List Int):Prop :=
  ∃ cur t,wr.heap[B]? = some (.cells cur t (0,0))∧cur.size = M∧done.length ≤ M∧cur.toList.take done.length = done.map (Value.int .u8)∧Below B w wr
theorem Arr.below {M B:Nat} {w wr:World} {done:List Int} (h:Arr M B w wr done):Below B w wr:=by
  obtain ⟨_,_,_,_,_,_,h⟩:=h; exact h
theorem Arr.lt {M B:Nat} {w wr:World} {done:List Int} (h:Arr M B w wr done):B < wr.heap.size:=by
  obtain ⟨_,_,h,_⟩:=h; exact (Array.getElem?_eq_some_iff.1 h).1
theorem Arr.some {M B:Nat} {w wr:World} {done:List Int} (h:Arr M B w wr done) {j:Nat} (hj:j < M):∃ v,wr.cell? ⟨B,j,none⟩ = .some v:=by
  obtain ⟨cur,t,h1,h2,_⟩:=h
  exact ⟨_,(cell_of_row wr B j cur t (0,0) h1).trans (Array.getElem?_eq_getElem (by omega))⟩
theorem zat {B:Nat} {a w:World} (h:Below B a w) (n:Nat):Below B a (w.drewN n):=h.trans ⟨rfl,rfl,rfl,Nat.le_refl _,fun _ _=>rfl⟩
theorem take_get (l:List Int) (k:Nat) (h:k < l.length):l.take (k + 1) = l.take k ++ [l.getD k 0]:=by
  rw [List.take_succ_eq_append_getElem h]; simp [h]
end Go.Proofs.YtdfihaabhichdaaGreat
namespace Go.Proofs.YtdfihaabhichdaaGreat
open Go.RowKit

theorem zb {C:Nat} {w w':World} {b o:Nat} {cs:List Value} (h:w.rangeAt b o cs) (hb:Below C w w') (hC:b < C):w'.rangeAt b o cs :=
  fun j v hv=>(hb.cell (p:=⟨b,o + j,none⟩) hC).trans (h j v hv)
theorem zd {C:Nat} {w w':World} {b o n:Nat} (h:w.there b o n) (hb:Below C w w') (hC:b < C):w'.there b o n :=
  fun j hj=>⟨by rw [hb.cell (p:=⟨b,o + j,none⟩) hC]; exact (h j hj).1,by rw [hb.frozen (p:=⟨b,o + j,none⟩) hC]; exact (h j hj).2⟩
theorem zr {G:Option Nat} {w w':World} {b o:Nat} {cs:List Value} (h:w.rangeAt b o cs) (hg:w.grownBy w' G) (hb:b < w.heap.size) (hne:some b ≠ G):w'.rangeAt b o cs :=
  fun j v hv=>(World.cell?_of_block (a:=⟨b,o + j,none⟩) (hg.block b hb hne)).trans (h j v hv)
theorem zan {G:Option Nat} {w w':World} {b o n:Nat} (h:w.there b o n) (hg:w.grownBy w' G) (hb:b < w.heap.size) (hne:some b ≠ G):w'.there b o n :=
  fun j hj=>⟨by rw [World.cell?_of_block (a:=⟨b,o + j,none⟩) (hg.block b hb hne)]; exact (h j hj).1,by rw [World.frozen?_of_block (a:=⟨b,o + j,none⟩) (hg.block b hb hne)]; exact (h j hj).2⟩
theorem zaa {w w':World} {B:Nat} {G:Option Nat} (h:Below B w w') (hB:w.heap.size ≤ B):w.grownBy w' G :=
  ⟨h.os,h.tape,h.output,h.size,fun k hk _=>h.block k (by omega)⟩
theorem gr_below' {w w':World} {G:Option Nat} {B:Nat} (h:w.grownBy w' G) (hG:∀ g,G = some g→B ≤ g) (hs:B ≤ w.heap.size):Below B w w' :=
  ⟨h.os,h.tape,h.output,h.size,fun k hk=>h.block k (by omega) (fun e=>by have:=hG k e.symm; omega)⟩
section
variable {α:Type} (f:α→List Value) (sz:Nat)

def RdR (w:World) (v:Value) (l:List α):Prop :=
  ∃ (a:Option Addr) (cap:Nat),v = .slice a l.length cap∧l.length ≤ 1073741824 ∧
    (l ≠ []→∃ b off,a = some ⟨b,off,none⟩∧b < w.heap.size∧∀ i c,l[i]? = some c→w.rangeAt b (off + i * sz) (f c))
def OwnR (B:Nat) (w:World) (v:Value) (l:List α):Prop :=
  ∃ (a:Option Addr) (cap:Nat),v = .slice a l.length cap∧l.length ≤ 1073741824 ∧
    (l ≠ []→∃ g,a = some ⟨g,0,none⟩∧B ≤ g∧g < w.heap.size∧(∀ i c,l[i]? = some c→w.rangeAt g (0 + i * sz) (f c))∧w.there g 0 (l.length * sz))
def FillR (n B:Nat) (w wr:World) (done:List α):Prop :=
  B < wr.heap.size∧done.length ≤ n∧(∀ i c,done[i]? = some c→wr.rangeAt B (0 + i * sz) (f c))∧wr.there B 0 (n * sz)∧Below B w wr
variable {f sz}

theorem zaA {B:Nat} {w:World} {v:Value} {l:List α} (h:OwnR f sz B w v l):RdR f sz w v l:=by
  obtain ⟨a,cap,rfl,hl,h⟩:=h
  refine ⟨a,cap,rfl,hl,fun hne=>?_⟩
  obtain ⟨g,rfl,_,h2,h3,_⟩:=h hne
  exact ⟨g,0,rfl,h2,h3⟩
theorem zi {C:Nat} {w w':World} {v:Value} {l:List α} (h:RdR f sz w v l) (hb:Below C w w') (hC:w.heap.size ≤ C):RdR f sz w' v l:=by
  obtain ⟨a,cap,rfl,hl,h⟩:=h
  refine ⟨a,cap,rfl,hl,fun hne=>?_⟩
  obtain ⟨b,off,rfl,h1,h2⟩:=h hne
  exact ⟨b,off,rfl,Nat.lt_of_lt_of_le h1 hb.size,fun i c hc=>zb (h2 i c hc) hb (Nat.lt_of_lt_of_le h1 hC)⟩
theorem zao {B C:Nat} {w w':World} {v:Value} {l:List α} (h:OwnR f sz B w v l) (hb:Below C w w') (hC:w.heap.size ≤ C):OwnR f sz B w' v l:=by
  obtain ⟨a,cap,rfl,hl,h⟩:=h
  refine ⟨a,cap,rfl,hl,fun hne=>?_⟩
  obtain ⟨g,rfl,h0,h1,h2,h3⟩:=h hne
  exact ⟨g,rfl,h0,Nat.lt_of_lt_of_le h1 hb.size,fun i c hc=>zb (h2 i c hc) hb (Nat.lt_of_lt_of_le h1 hC),zd h3 hb (Nat.lt_of_lt_of_le h1 hC)⟩
theorem ownR_grown {B:Nat} {G:Option Nat} {w w':World} {v:Value} {l:List α} (h:OwnR f sz B w v l) (hg:w.grownBy w' G) (hne':l ≠ []→v.ownBlock ≠ G):OwnR f sz B w' v l:=by
  obtain ⟨a,cap,rfl,hl,h⟩:=h
  refine ⟨a,cap,rfl,hl,fun hne=>?_⟩
  obtain ⟨g,rfl,h0,h1,h2,h3⟩:=h hne
  exact ⟨g,rfl,h0,Nat.lt_of_lt_of_le h1 hg.size,fun i c hc=>zr (h2 i c hc) hg h1 (hne' hne),zan h3 hg h1 (hne' hne)⟩
theorem ownR_lt {B:Nat} {w:World} {v:Value} {l:List α} (h:OwnR f sz B w v l) (hne:l ≠ []):∃ g,v.ownBlock = some g∧B ≤ g∧g < w.heap.size:=by
  obtain ⟨a,cap,rfl,hl,h⟩:=h
  obtain ⟨g,rfl,h0,h1,_⟩:=h hne
  exact ⟨g,rfl,h0,h1⟩
theorem zn {B:Nat} {w:World} (b:Nat) (hb:B ≤ b):∀ (vs:List Value) (o:Nat) (wr:World),Below B w wr→Below B w (wr.setCells b o vs)
  | [],_,_,h=>h
  | v :: r,o,wr,h=>by rw [World.setCells]; exact zn b hb r (o + 1) _ (h.setCell (show B ≤ (⟨b,o,none⟩:Addr).block from hb) v)
theorem zv (b:Nat):∀ (vs:List Value) (o:Nat) (wr:World),(wr.setCells b o vs).heap.size = wr.heap.size
  | [],_,_=>rfl
  | v :: r,o,wr=>by rw [World.setCells,zv b r (o + 1)]; simp [World.setCell]
theorem zau {w:World} {g n t:Nat} {cur:Array Value} (hg:w.heap[g]? = some (.cells cur t (0,0))) (hn:n ≤ cur.size):w.there g 0 n:=fun j hj =>
  ⟨by rw [cell_of_row w g (0 + j) cur t (0,0) hg,Array.getElem?_eq_getElem (by omega)]; rfl,by simp [World.frozen?,hg]⟩
theorem fill_made {w w':World} {n e:Nat} {xs:List Value} (h:w'.ownsRow w.heap.size e sz (.slice (some ⟨w.heap.size,0,none⟩) n n) n xs) (hg:w.grownBy w' none):FillR f sz n w.heap.size w w' []:=by
  rcases h.2 with ⟨h0,_⟩ | ⟨g,cap,cur,hv,_,hh,_,_,hcur,_⟩
  · simp at h0
  · simp only [Value.slice.injEq,Option.some.injEq,Addr.mk.injEq,and_true,true_and] at hv
    obtain ⟨rfl,rfl⟩:=hv
    exact ⟨(Array.getElem?_eq_some_iff.1 hh).1,Nat.zero_le _,by simp,zau hh (by omega),(Below.refl _ w).grown hg (Nat.le_refl _) (fun k hk=>by simp at hk)⟩
theorem fill_below {n B C:Nat} {w wr wr':World} {done:List α} (h:FillR f sz n B w wr done) (hb:Below C wr wr') (hC:wr.heap.size ≤ C):FillR f sz n B w wr' done:=by
  obtain ⟨h1,h2,h3,h4,h5⟩:=h
  exact ⟨Nat.lt_of_lt_of_le h1 hb.size,h2,fun i c hc=>zb (h3 i c hc) hb (by omega),zd h4 hb (by omega),h5.trans (hb.mono (by omega))⟩
theorem fill_step {n B:Nat} {w wr:World} {done:List α} (x:α) (h:FillR f sz n B w wr done) (hn:done.length < n) (hf:∀ c,(f c).length = sz):FillR f sz n B w (wr.setCells B (done.length * sz) (f x)) (done ++ [x]):=by
  obtain ⟨h1,h2,h3,h4,h5⟩:=h
  have hle:done.length * sz + sz ≤ n * sz:=by
    have:=Nat.mul_le_mul_right sz (show done.length + 1 ≤ n by omega)
    rw [Nat.add_mul] at this; omega
  refine ⟨by rw [zv]; exact h1,by simp; omega,fun i c hc=>?_,World.there_setCells h4 _ _ _,zn B (Nat.le_refl _) _ _ _ h5⟩
  by_cases hi:i < done.length
  · rw [List.getElem?_append_left hi] at hc
    refine World.rangeAt_setCells_apart (h3 i c hc) _ _ _ (.inr (.inl ?_))
    rw [hf c]
    have:=Nat.mul_le_mul_right sz (show i + 1 ≤ done.length by omega)
    rw [Nat.add_mul] at this; omega
  · have hlen:i < (done ++ [x]).length:=(List.getElem?_eq_some_iff.1 hc).1
    have hi':i = done.length:=by simp at hlen; omega
    subst hi'
    simp only [List.getElem?_append_right (Nat.le_refl _),Nat.sub_self,List.getElem?_cons_zero,Option.some.injEq] at hc
    subst hc
    rw [Nat.zero_add]
    exact World.rangeAt_setCells_same _ _ _ _ (fun j hj=>by
      have:=h4 (done.length * sz + j) (by rw [hf] at hj; omega)
      rw [Nat.zero_add] at this; exact this)
theorem fill_own {n B:Nat} {w wr:World} {l:List α} (h:FillR f sz n B w wr l) (hl:l.length = n) (hn:n ≤ 1073741824):OwnR f sz B wr (.slice (some ⟨B,0,none⟩) n n) l:=by
  obtain ⟨h1,h2,h3,h4,h5⟩:=h
  exact ⟨_,n,by rw [hl],by omega,fun _=>⟨B,rfl,Nat.le_refl _,h1,h3,by rw [hl]; exact h4⟩⟩
theorem fill_there {n B i:Nat} {w wr:World} {done:List α} (h:FillR f sz n B w wr done) (hi:i < n):wr.there B (i * sz) sz:=fun j hj=>by
  have hle:=Nat.mul_le_mul_right sz (show i + 1 ≤ n by omega)
  rw [Nat.add_mul] at hle
  have:=h.2.2.2.1 (i * sz + j) (by omega)
  rw [Nat.zero_add] at this; exact this
theorem flat_get (hf:∀ c,(f c).length = sz):∀ (l:List α) (i j:Nat) (c:α),l[i]? = some c→j < sz→(l.flatMap f)[i * sz + j]? = (f c)[j]?
  | [],_,_,_,h,_=>by simp at h
  | a :: l,0,j,c,h,hj=>by
    simp at h; subst h
    rw [List.flatMap_cons,List.getElem?_append_left (by rw [hf]; omega)]; simp
  | a :: l,i + 1,j,c,h,hj=>by
    simp at h
    rw [List.flatMap_cons,List.getElem?_append_right (by rw [hf,Nat.add_mul]; omega),hf,← flat_get hf l i j c h hj]
    congr 1
    rw [Nat.add_mul]; omega
theorem zM (hf:∀ c,(f c).length = sz):∀ (l:List α),(l.flatMap f).length = l.length * sz
  | []=>by simp
  | a :: l=>by rw [List.flatMap_cons,List.length_append,hf,zM hf l,List.length_cons,Nat.add_mul]; omega
theorem zaG {B e:Nat} {w:World} {v:Value} {l:List α} (hf:∀ c,(f c).length = sz) (hl:l.length ≤ 1073741824) (h:w.ownsRow B e sz v l.length (l.flatMap f)):OwnR f sz B w v l:=by
  rcases h.2 with ⟨rfl,h0⟩ | ⟨g,cap,cur,rfl,hb,hg,hcap,_,hcur,htake⟩
  · exact ⟨none,0,by rw [h0],hl,fun hne=>absurd (List.length_eq_zero_iff.1 h0) hne⟩
  · have hle:=Nat.mul_le_mul_right sz hcap
    refine ⟨_,cap,rfl,hl,fun _=>⟨g,rfl,hb,(Array.getElem?_eq_some_iff.1 hg).1,fun i c hc j u hu=>?_,zau hg (by omega)⟩⟩
    have hj:j < sz:=by rw [← hf c]; exact (List.getElem?_eq_some_iff.1 hu).1
    have h2:=flat_get hf l i j c hc hj
    have hlt:i * sz + j < l.length * sz:=by
      have:=Nat.mul_le_mul_right sz (show i + 1 ≤ l.length from (List.getElem?_eq_some_iff.1 hc).1)
      rw [Nat.add_mul] at this; omega
    rw [← htake,List.getElem?_take,if_pos hlt] at h2
    rw [cell_of_row w g _ cur e (0,0) hg,Nat.zero_add]
    simpa using h2.trans hu
end
end Go.Proofs.YtdfihaabhichdaaGreat
namespace Go.Proofs.YtdfihaabhichdaaGreat
open Go.RowKit
set_option linter.unusedVariables false

def Od.vs (o:Od):List Value:=[.int .i64 o.id,.int .i64 o.side,.int .i64 o.ticks,.int .i64 o.left,.int .i64 o.life,.string o.tag]
theorem Od.len (o:Od):o.vs.length = 6:=rfl
def Od.val (o:Od):Value:=.agg #[.int .i64 o.id,.int .i64 o.side,.int .i64 o.ticks,.int .i64 o.left,.int .i64 o.life,.string o.tag]
def Nd.vs (n:Nd):List Value:=[.int .i64 n.side,.int .i64 n.ticks,.int .i64 n.qty,.int .i64 n.count,.int .i64 n.be,.int .i64 n.wo,.int .i64 n.el,.int .i64 n.yo]
def Qo.vs (q:Qo):List Value:=[.int .i64 q.od.id,.int .i64 q.od.side,.int .i64 q.od.ticks,.int .i64 q.od.left,.int .i64 q.od.life,.string q.od.tag,.int .i64 q.yg]
structure TM (T:TypeId) (w:World) (b:Nat) (S:TS):Prop where
  root:w.cell? ⟨b,0,none⟩ = some (.int .i64 S.root)
  lc:w.cell? ⟨b,1,none⟩ = some (.int .i64 S.lc)
  nd:∀ i,i < 21→w.rangeAt b (2 + i * 8) (S.nd i).vs
  oc:w.cell? ⟨b,170,none⟩ = some (.int .i64 S.oc)
  qo:∀ i,i < 21→w.rangeAt b (171 + i * 7) (S.qo i).vs
  fr:∀ o,w.frozen? ⟨b,o,none⟩ = false
  obj:∃ cur,w.heap[b]? = some (.cells cur T (0,0))
theorem obj_set {w:World} {b o:Nat} {v:Value} {T:TypeId} (h:∃ cur,w.heap[b]? = some (.cells cur T (0,0))):∃ cur,(w.setCell ⟨b,o,none⟩ v).heap[b]? = some (.cells cur T (0,0)):=by
  obtain ⟨cur,h⟩:=h
  exact ⟨cur.setIfInBounds o v,by simp [World.setCell,Array.getElem?_modify,h]⟩
theorem tm_lt {w:World} {b:Nat} {S:TS} {T:TypeId} (h:TM T w b S):b < w.heap.size:=World.block_lt_of_cell? w _ h.root
theorem zam {w w':World} {b:Nat} {S:TS} {T:TypeId} (h:TM T w b S) (hb:w'.heap[b]? = w.heap[b]?):TM T w' b S :=
  ⟨(World.cell?_of_block (a:=⟨b,0,none⟩) hb).trans h.root,(World.cell?_of_block (a:=⟨b,1,none⟩) hb).trans h.lc,
   fun i hi j v hv=>(World.cell?_of_block (a:=⟨b,2 + i * 8 + j,none⟩) hb).trans (h.nd i hi j v hv),(World.cell?_of_block (a:=⟨b,170,none⟩) hb).trans h.oc,
   fun i hi j v hv=>(World.cell?_of_block (a:=⟨b,171 + i * 7 + j,none⟩) hb).trans (h.qo i hi j v hv),fun o=>(World.frozen?_of_block (a:=⟨b,o,none⟩) hb).trans (h.fr o),by rw [hb]; exact h.obj⟩
theorem zbC {w w':World} {b C:Nat} {S:TS} {T:TypeId} (h:TM T w b S) (hb:Below C w w') (hC:b < C):TM T w' b S:=zam h (hb.block b hC)
theorem zcg {w w':World} {b:Nat} {G:Option Nat} {S:TS} {T:TypeId} (h:TM T w b S) (hg:w.grownBy w' G) (hne:some b ≠ G):TM T w' b S:=zam h (hg.block b (tm_lt h) hne)
theorem zaE {w:World} {b o n:Nat} {v:Value} {cs:List Value} (h:w.rangeAt b o cs) (hn:n < o ∨ o + cs.length ≤ n):(w.setCell ⟨b,n,none⟩ v).rangeAt b o cs:=fun j u hu=>by
  have hj:=(List.getElem?_eq_some_iff.1 hu).1
  rw [World.cell?_setCell_other _ _ _ _ (zac (by omega))]
  exact h j u hu
theorem set_range_in {w:World} {b o j0:Nat} {v:Value} {cs:List Value} (h:w.rangeAt b o cs) (hj0:j0 < cs.length):(w.setCell ⟨b,o + j0,none⟩ v).rangeAt b o (cs.set j0 v):=fun j u hu=>by
  by_cases hj:j = j0
  · subst hj
    rw [List.getElem?_set_self hj0] at hu
    obtain rfl:=Option.some.inj hu
    exact World.cell?_setCell_same _ _ _ (h j _ (List.getElem?_eq_getElem hj0))
  · rw [List.getElem?_set_ne (fun e=>hj e.symm)] at hu
    rw [World.cell?_setCell_other _ _ _ _ (zac (by omega))]
    exact h j u hu
theorem zaH {w:World} {b o n:Nat} {v u:Value} (h:w.cell? ⟨b,o,none⟩ = some u) (hn:o ≠ n):(w.setCell ⟨b,n,none⟩ v).cell? ⟨b,o,none⟩ = some u:=by
  rw [World.cell?_setCell_other _ _ _ _ (zac (by omega))]; exact h
theorem Nd.len (n:Nd):n.vs.length = 8:=rfl
theorem Qo.len (n:Qo):n.vs.length = 7:=rfl
theorem tm_root {w:World} {b:Nat} {S:TS} {T:TypeId} (h:TM T w b S) (n:Nat):TM T (w.setCell ⟨b,0,none⟩ (.int .i64 n)) b { S with root:=n } :=
  ⟨World.cell?_setCell_same _ _ _ h.root,zaH h.lc (by omega),fun i hi=>zaE (h.nd i hi) (by omega),zaH h.oc (by omega),fun i hi=>zaE (h.qo i hi) (by omega),fun o=>by rw [World.frozen?_setCell]; exact h.fr o,obj_set h.obj⟩
theorem tm_lc {w:World} {b:Nat} {S:TS} {T:TypeId} (h:TM T w b S) (n:Nat):TM T (w.setCell ⟨b,1,none⟩ (.int .i64 n)) b { S with lc:=n } :=
  ⟨zaH h.root (by omega),World.cell?_setCell_same _ _ _ h.lc,fun i hi=>zaE (h.nd i hi) (by omega),zaH h.oc (by omega),fun i hi=>zaE (h.qo i hi) (by omega),fun o=>by rw [World.frozen?_setCell]; exact h.fr o,obj_set h.obj⟩
theorem tm_oc {w:World} {b:Nat} {S:TS} {T:TypeId} (h:TM T w b S) (n:Nat):TM T (w.setCell ⟨b,170,none⟩ (.int .i64 n)) b { S with oc:=n } :=
  ⟨zaH h.root (by omega),zaH h.lc (by omega),fun i hi=>zaE (h.nd i hi) (by rw [Nd.len]; omega),World.cell?_setCell_same _ _ _ h.oc,fun i hi=>zaE (h.qo i hi) (by omega),fun o=>by rw [World.frozen?_setCell]; exact h.fr o,obj_set h.obj⟩
theorem zbj {w:World} {b:Nat} {S:TS} {T:TypeId} (h:TM T w b S) (i0 j0:Nat) (hi0:i0 < 21) (hj0:j0 < 8) (v:Value) (n':Nd) (hn:n'.vs = (S.nd i0).vs.set j0 v) (o:Nat) (ho:o = 2 + i0 * 8 + j0) :
    TM T (w.setCell ⟨b,o,none⟩ v) b { S with nd:=upd S.nd i0 n' }:=by
  subst ho
  refine ⟨zaH h.root (by omega),zaH h.lc (by omega),fun i hi=>?_,zaH h.oc (by omega),fun i hi=>zaE (h.qo i hi) (by omega),fun o=>by rw [World.frozen?_setCell]; exact h.fr o,obj_set h.obj⟩
  by_cases hii:i = i0
  · subst hii
    show World.rangeAt _ _ _ (upd S.nd i n' i).vs
    rw [zp,hn]
    exact set_range_in (h.nd i hi) hj0
  · show World.rangeAt _ _ _ (upd S.nd i0 n' i).vs
    rw [zq _ _ hii]
    exact zaE (h.nd i hi) (by rw [Nd.len]; omega)
theorem tm_qo {w:World} {b:Nat} {S:TS} {T:TypeId} (h:TM T w b S) (i0 j0:Nat) (hi0:i0 < 21) (hj0:j0 < 7) (v:Value) (n':Qo) (hn:n'.vs = (S.qo i0).vs.set j0 v) (o:Nat) (ho:o = 171 + i0 * 7 + j0) :
    TM T (w.setCell ⟨b,o,none⟩ v) b { S with qo:=upd S.qo i0 n' }:=by
  subst ho
  refine ⟨zaH h.root (by omega),zaH h.lc (by omega),fun i hi=>zaE (h.nd i hi) (by rw [Nd.len]; omega),zaH h.oc (by omega),fun i hi=>?_,fun o=>by rw [World.frozen?_setCell]; exact h.fr o,obj_set h.obj⟩
  by_cases hii:i = i0
  · subst hii
    show World.rangeAt _ _ _ (upd S.qo i n' i).vs
    rw [zp,hn]
    exact set_range_in (h.qo i hi) hj0
  · show World.rangeAt _ _ _ (upd S.qo i0 n' i).vs
    rw [zq _ _ hii]
    exact zaE (h.qo i hi) (by rw [Qo.len]; omega)
theorem zN {w:World} {b o:Nat} {n:Nd} (h:w.rangeAt b o n.vs) :
    w.cell? ⟨b,o,none⟩ = some (.int .i64 n.side)∧w.cell? ⟨b,o + 1,none⟩ = some (.int .i64 n.ticks)∧w.cell? ⟨b,o + 2,none⟩ = some (.int .i64 n.qty)∧w.cell? ⟨b,o + 3,none⟩ = some (.int .i64 n.count) ∧
    w.cell? ⟨b,o + 4,none⟩ = some (.int .i64 n.be)∧w.cell? ⟨b,o + 5,none⟩ = some (.int .i64 n.wo)∧w.cell? ⟨b,o + 6,none⟩ = some (.int .i64 n.el)∧w.cell? ⟨b,o + 7,none⟩ = some (.int .i64 n.yo) :=
  ⟨h 0 _ rfl,h 1 _ rfl,h 2 _ rfl,h 3 _ rfl,h 4 _ rfl,h 5 _ rfl,h 6 _ rfl,h 7 _ rfl⟩
theorem zce {w:World} {b o:Nat} {n:Qo} (h:w.rangeAt b o n.vs) :
    w.cell? ⟨b,o,none⟩ = some (.int .i64 n.od.id)∧w.cell? ⟨b,o + 1,none⟩ = some (.int .i64 n.od.side)∧w.cell? ⟨b,o + 2,none⟩ = some (.int .i64 n.od.ticks)∧w.cell? ⟨b,o + 3,none⟩ = some (.int .i64 n.od.left) ∧
    w.cell? ⟨b,o + 4,none⟩ = some (.int .i64 n.od.life)∧w.cell? ⟨b,o + 5,none⟩ = some (.string n.od.tag)∧w.cell? ⟨b,o + 6,none⟩ = some (.int .i64 n.yg) :=
  ⟨h 0 _ rfl,h 1 _ rfl,h 2 _ rfl,h 3 _ rfl,h 4 _ rfl,h 5 _ rfl,h 6 _ rfl⟩
theorem zC {w:World} {b o:Nat} {n:Od} (h:w.rangeAt b o n.vs) :
    w.cell? ⟨b,o,none⟩ = some (.int .i64 n.id)∧w.cell? ⟨b,o + 1,none⟩ = some (.int .i64 n.side)∧w.cell? ⟨b,o + 2,none⟩ = some (.int .i64 n.ticks)∧w.cell? ⟨b,o + 3,none⟩ = some (.int .i64 n.left) ∧
    w.cell? ⟨b,o + 4,none⟩ = some (.int .i64 n.life)∧w.cell? ⟨b,o + 5,none⟩ = some (.string n.tag) :=
  ⟨h 0 _ rfl,h 1 _ rfl,h 2 _ rfl,h 3 _ rfl,h 4 _ rfl,h 5 _ rfl⟩
def Cur.off:Cur→Nat
  | .root=>0
  | .be h=>2 + h * 8 + 4
  | .wo h=>2 + h * 8 + 5
def Cur.ok:Cur→Prop
  | .root=>True
  | .be h=>h < 21
  | .wo h=>h < 21
theorem cur_cell {w:World} {b:Nat} {S:TS} {T:TypeId} (h:TM T w b S) (c:Cur) (hc:c.ok):w.cell? ⟨b,c.off,none⟩ = some (.int .i64 (S.rd c)):=by
  cases c with
  | root=>exact h.root
  | be a=>exact (zN (h.nd a hc)).2.2.2.2.1
  | wo a=>exact (zN (h.nd a hc)).2.2.2.2.2.1
theorem tm_cur {w:World} {b:Nat} {S:TS} {T:TypeId} (h:TM T w b S) (c:Cur) (hc:c.ok) (n:Nat):TM T (w.setCell ⟨b,c.off,none⟩ (.int .i64 n)) b (S.wr n c):=by
  cases c with
  | root=>exact tm_root h n
  | be a=>exact zbj h a 4 hc (by omega) (.int .i64 n) { S.nd a with be:=n } rfl _ rfl
  | wo a=>exact zbj h a 5 hc (by omega) (.int .i64 n) { S.nd a with wo:=n } rfl _ rfl
theorem zbP {α:Type} (f:Nat→α) (i:Nat) (x y:α):upd (upd f i x) i y = upd f i y:=by
  funext j; simp only [upd]; split <;> rfl
theorem zg (w:World) (cs:List Value) (t:TypeId):(w.alloc (Obj.cells cs.toArray t)).rangeAt w.heap.size 0 cs:=fun j u h=>by
  rw [cell_of_row _ w.heap.size (0 + j) cs.toArray t (0,0) (heap_alloc_new w _)]
  simpa using h
theorem zf (w:World) (o:Obj):(w.alloc o).heap.size = w.heap.size + 1:=by simp
theorem gr_drew {a w:World} {G:Option Nat} (h:a.grownBy w G):a.grownBy w.drew G:=⟨h.os,h.tape,h.output,h.size,h.block⟩
theorem zag {P:Program} {ops:Array Oper} {C:World→Prop} {Q:Act→Prop} {a:Act} {o:Oper} {rest:List Oper} {v:Value} (h1:Region.wanted o (yielded ops a.tmps) = true) (h2:∀ w',C w'→o.quietAt P a C w' v)
    (h3:∀ K:Act→Prop,(∀ a,wpQuiet P ops C Q rest a→K a)→K (a.put o.dst v)):wpQuiet P ops C Q (o :: rest) a :=
  wpQuiet_step fun K hK=>by rw [if_pos h1]; exact ⟨v,h2,h3 K hK⟩
theorem zar {P:Program} {id:Nat} {Q:Exit→Act→World→Prop} {a:Act} {w W:World} {l:List Oper} (hm:P.follows .mixedOrders = true) (hB:Region.lexB .any l.toArray = true) (hg:W.grownBy w none)
    (h:wpQuiet P l.toArray (fun w'=>W.grownBy w' none) (fun a'=>∀ w',W.grownBy w' none→Q .normal a' w') l a):(Code.region id l.toArray true).wp P Q a w :=
  wp_region_quiet (C:=fun w'=>W.grownBy w' none) hm hB ⟨hg.os,hg.tape,hg.output,hg.size,hg.block⟩ (by simpa using h)
theorem zO {a w:World} {b:Nat} (h:a.grownBy w (some b)) (o:Nat) (v:Value):a.grownBy (w.setCell ⟨b,o,none⟩ v) (some b) :=
  ⟨h.os,h.tape,h.output,by rw [World.setCell]; simpa using h.size,fun k hk hne=>(Below.heap_setCell w _ _ k (fun e=>hne (by rw [e]))).trans (h.block k hk hne)⟩
theorem grow_eq (S:TS) (cu:Cur) (o:Od) (m:Nat) (hm:m = S.lc + 1) :
    ({ root:=({ S with lc:=m }.wr m cu).root,lc:=({ S with lc:=m }.wr m cu).lc,oc:=({ S with lc:=m }.wr m cu).oc,
       nd:=upd ({ S with lc:=m }.wr m cu).nd m { (({ S with lc:=m }.wr m cu).nd m) with side:=o.side,ticks:=o.ticks,qty:=0,count:=0 },qo:=({ S with lc:=m }.wr m cu).qo }:TS) = S.grow cu o.side o.ticks:=by
  subst hm
  cases cu <;> rfl
def LFI (s:Bool) (b:Nat) (S:TS) (t:Tr) (kk:Int) (W:World) (k:Nat) (p:Value) (wr:World):Prop :=
  ∃ c u,p = .pointer (some ⟨b,(zV c).off,none⟩)∧u.hs.length ≤ k∧Way s S t kk c u∧W.grownBy wr none
def LFEnd (s:Bool) (T:TypeId) (b:Nat) (S:TS) (t:Tr) (o:Od) (w:World) (h:Nat) (w':World):Prop :=
  ∃ (S':TS),TM T w' b S'∧w.grownBy w' (some b) ∧
    ((h ∈ t.hs∧(S.nd h).ticks = o.ticks∧S' = S) ∨ (∃ c u,Way s S t o.ticks c u∧S.rd (zV c) = 0∧h = S.lc + 1∧S' = S.grow (zV c) o.side o.ticks))
theorem cur_ok {s:Bool} {S:TS} {t:Tr} {k:Int} {c:Ctx} {u:Tr} (hi:TI s S t) (h:Way s S t k c u) (hlc:S.lc < 20):(zV c).ok:=by
  have hm:∀ a ∈ cl c ++ cr c,a < 21:=fun a ha=>by
    have:=hi.range a (by rw [h.plug,zbX]; simp at ha ⊢; rcases ha with h | h <;> simp [h])
    omega
  match c,hm with
  | [],_=>trivial
  | (true,a,r) :: c,hm=>exact hm a (by simp [cr])
  | (false,a,l) :: c,hm=>exact hm a (by simp [cl])
theorem tm_put {w:World} {b:Nat} {S:TS} {T:TypeId} (h:TM T w b S) (i:Nat) (hi:i < 21) (o:Od) :
    TM T (((((((w.setCell ⟨b,171 + i * 7,none⟩ (.int .i64 o.id)).setCell ⟨b,171 + i * 7 + 1,none⟩ (.int .i64 o.side)).setCell ⟨b,171 + i * 7 + 2,none⟩ (.int .i64 o.ticks)).setCell ⟨b,171 + i * 7 + 3,none⟩ (.int .i64 o.left)).setCell
      ⟨b,171 + i * 7 + 4,none⟩ (.int .i64 o.life)).setCell ⟨b,171 + i * 7 + 5,none⟩ (.string o.tag)).setCell ⟨b,171 + i * 7 + 6,none⟩ (.int .i64 0)) b { S with qo:=upd S.qo i ⟨o,0⟩ }:=by
  have h0:=tm_qo h i 0 hi (by omega) (.int .i64 o.id) { (TS.qo _ i) with od:={ (TS.qo _ i).od with id:=o.id } } rfl _ rfl
  have h1:=tm_qo h0 i 1 hi (by omega) (.int .i64 o.side) { (TS.qo _ i) with od:={ (TS.qo _ i).od with side:=o.side } } rfl _ rfl
  have h2:=tm_qo h1 i 2 hi (by omega) (.int .i64 o.ticks) { (TS.qo _ i) with od:={ (TS.qo _ i).od with ticks:=o.ticks } } rfl _ rfl
  have h3:=tm_qo h2 i 3 hi (by omega) (.int .i64 o.left) { (TS.qo _ i) with od:={ (TS.qo _ i).od with left:=o.left } } rfl _ rfl
  have h4:=tm_qo h3 i 4 hi (by omega) (.int .i64 o.life) { (TS.qo _ i) with od:={ (TS.qo _ i).od with life:=o.life } } rfl _ rfl
  have h5:=tm_qo h4 i 5 hi (by omega) (.string o.tag) { (TS.qo _ i) with od:={ (TS.qo _ i).od with tag:=o.tag } } rfl _ rfl
  have h6:=tm_qo h5 i 6 hi (by omega) (.int .i64 0) { (TS.qo _ i) with yg:=0 } rfl _ rfl
  simp only [zbP,zp] at h6
  exact h6
theorem gr_put {w:World} {b:Nat} (o:Od) (i:Nat) :
    w.grownBy (((((((w.setCell ⟨b,171 + i * 7,none⟩ (.int .i64 o.id)).setCell ⟨b,171 + i * 7 + 1,none⟩ (.int .i64 o.side)).setCell ⟨b,171 + i * 7 + 2,none⟩ (.int .i64 o.ticks)).setCell ⟨b,171 + i * 7 + 3,none⟩ (.int .i64 o.left)).setCell
      ⟨b,171 + i * 7 + 4,none⟩ (.int .i64 o.life)).setCell ⟨b,171 + i * 7 + 5,none⟩ (.string o.tag)).setCell ⟨b,171 + i * 7 + 6,none⟩ (.int .i64 0)) (some b) :=
  zO (zO (zO (zO (zO (zO (zO (World.grownBy.refl _ _) _ _) _ _) _ _) _ _) _ _) _ _) _ _
theorem lf_lt {s:Bool} {T:TypeId} {b:Nat} {S:TS} {t:Tr} {o:Od} {w w':World} {h:Nat} (he:LFEnd s T b S t o w h w') (hi:TI s S t) (hlc:S.lc < 20):(h:Int) < 21:=by
  obtain ⟨S',_,_,⟨h1,_,_⟩ | ⟨c,u,_,_,h1,_⟩⟩:=he
  · have:=(hi.range h h1).2; omega
  · omega
theorem link_eq0 (S:TS) (h m:Nat) (lf:Int) (hy:(S.nd h).yo = 0) :
    ({ S with nd:=upd S.nd h { (S.nd h) with qty:=(S.nd h).qty + lf,count:=(S.nd h).count + 1,el:=m,yo:=m } }:TS) = S.link h m lf:=by
  simp [TS.link,hy]
theorem link_eq1 (S:TS) (h m:Nat) (lf:Int) (hy:¬ (S.nd h).yo = 0) :
    ({ S with nd:=upd S.nd h { (S.nd h) with qty:=(S.nd h).qty + lf,count:=(S.nd h).count + 1,yo:=m },qo:=upd S.qo (S.nd h).yo { S.qo (S.nd h).yo with yg:=m } }:TS) = S.link h m lf:=by
  simp [TS.link,hy]
theorem zaZ {a w w':World} {G:Option Nat} (h:a.grownBy w G) (h1:w'.os = w.os) (h2:w'.tape = w.tape) (h3:w'.output = w.output) (h4:w'.heap = w.heap):a.grownBy w' G :=
  ⟨h1.trans h.os,h2.trans h.tape,h3.trans h.output,by rw [h4]; exact h.size,fun k hk hne=>by rw [h4]; exact h.block k hk hne⟩
def zaj (T:TypeId) (s:Bool) (w:World) (b:Nat) (sd:Int) (seq:List Od):Prop:=∃ S t,TM T w b S∧TI s S t∧QI S t sd seq∧S.lc ≤ seq.length
theorem tm_zero (w:World) (Z:Array Value) (T:TypeId) (h0:Z[0]? = some (.int .i64 0)) (h1:Z[1]? = some (.int .i64 0)) (h2:∀ i,i < 21→(Z.toList.drop (2 + i * 8)).take 8 = zNd.vs) (h3:Z[170]? = some (.int .i64 0)) (h4:∀ i,i < 21→(Z.toList.drop (171 + i * 7)).take 7 = zQo.vs) :
    TM T (w.alloc (Obj.cells Z T)) w.heap.size zTS:=by
  have hh:=heap_alloc_new w (Obj.cells Z T)
  have hcell:∀ o,(w.alloc (Obj.cells Z T)).cell? ⟨w.heap.size,o,none⟩ = Z[o]?:=fun o=>cell_of_row _ w.heap.size o Z T (0,0) hh
  have hrow:∀ (o n:Nat) (cs:List Value),(Z.toList.drop o).take n = cs→(w.alloc (Obj.cells Z T)).rangeAt w.heap.size o cs:=fun o n cs hcs j v hv=>by
    rw [hcell,← hv,← hcs,List.getElem?_take,List.getElem?_drop,Array.getElem?_toList]
    rw [← hcs,List.getElem?_take] at hv
    split
    · rfl
    · next hj=>rw [if_neg hj] at hv; cases hv
  exact ⟨(hcell 0).trans h0,(hcell 1).trans h1,fun i hi=>hrow _ 8 _ (h2 i hi),(hcell 170).trans h3,fun i hi=>hrow _ 7 _ (h4 i hi),fun o=>by simp only [World.frozen?,hh]; simp,Z,hh⟩
theorem zJ {T:TypeId} {s:Bool} {w w':World} {b:Nat} {sd:Int} {seq:List Od} (h:zaj T s w b sd seq) (hb:w'.heap[b]? = w.heap[b]?):zaj T s w' b sd seq:=by
  obtain ⟨S,t,h1,h2⟩:=h
  exact ⟨S,t,zam h1 hb,h2⟩
theorem zae {T:TypeId} {s:Bool} {w:World} {b:Nat} {sd:Int} {seq:List Od} (h:zaj T s w b sd seq):b < w.heap.size:=by
  obtain ⟨S,t,h1,_⟩:=h; exact tm_lt h1
theorem sumL_bound:∀ l:List Od,(∀ o ∈ l,0 ≤ o.left∧o.left ≤ 1000000)→0 ≤ sumL l∧sumL l ≤ 1000000 * l.length
  | [],_=>by simp [sumL]
  | a :: l,h=>by
    have h1:=h a (by simp)
    have h2:=sumL_bound l (fun o ho=>h o (by simp [ho]))
    simp only [sumL,List.length_cons]
    omega
end Go.Proofs.YtdfihaabhichdaaGreat
namespace Go.Proofs.YtdfihaabhichdaaGreat
open Go.RowKit

def insT (s:Bool) (k:Int):List Int→List Int
  | []=>[k]
  | a :: r=>if bt s k a then k :: a :: r else if k = a then a :: r else a :: insT s k r
theorem insT_mem (s:Bool) (k x:Int):∀ T:List Int,x ∈ insT s k T ↔ x = k ∨ x ∈ T
  | []=>by simp [insT]
  | a :: r=>by
    rw [insT]
    split
    · simp
    · split
      · next h=>subst h; simp
      · simp [insT_mem s k x r]; constructor
        · rintro (h | h | h) <;> simp [h]
        · rintro (h | h | h) <;> simp [h]
theorem insT_sorted (s:Bool) (k:Int):∀ T:List Int,T.Pairwise (bt s)→(insT s k T).Pairwise (bt s)
  | [],_=>by simp [insT]
  | a :: r,h=>by
    obtain ⟨p1,p2⟩:=List.pairwise_cons.1 h
    rw [insT]
    split
    · next hk=>exact List.pairwise_cons.2 ⟨fun x hx=>by
        rcases List.mem_cons.1 hx with rfl | hx
        · exact hk
        · exact bt_trans hk (p1 x hx),h⟩
    · next hk =>
      split
      · exact h
      · next hne =>
        refine List.pairwise_cons.2 ⟨fun x hx=>?_,insT_sorted s k r p2⟩
        rcases (insT_mem s k x r).1 hx with rfl | hx
        · rcases bt_total s x a with h1 | h1 | h1
          · exact absurd h1 hk
          · exact absurd h1 hne
          · exact h1
        · exact p1 x hx
def tks (s:Bool):List Od→List Int
  | []=>[]
  | o :: r=>insT s o.ticks (tks s r)
theorem zcn (s:Bool):∀ seq:List Od,IsT s seq (tks s seq)
  | []=>⟨by simp [tks],by simp [tks]⟩
  | o :: r=>by
    have ih:=zcn s r
    refine ⟨insT_sorted s _ _ ih.sorted,fun k=>?_⟩
    rw [tks,insT_mem,ih.mem]
    constructor
    · rintro (rfl | ⟨o',h1,h2⟩)
      · exact ⟨o,by simp,rfl⟩
      · exact ⟨o',by simp [h1],h2⟩
    · rintro ⟨o',h1,h2⟩
      rcases List.mem_cons.1 h1 with rfl | h1
      · exact .inl h2.symm
      · exact .inr ⟨o',h1,h2⟩
theorem zcj {s:Bool}:∀ {A B:List Int},A.Pairwise (bt s)→B.Pairwise (bt s)→(∀ k,k ∈ A ↔ k ∈ B)→A = B
  | [],B,_,_,h=>by
    cases B with
    | nil=>rfl
    | cons b r=>exact absurd ((h b).2 (by simp)) (by simp)
  | a :: A,[],_,_,h=>absurd ((h a).1 (by simp)) (by simp)
  | a :: A,b :: B,hA,hB,h=>by
    obtain ⟨p1,p2⟩:=List.pairwise_cons.1 hA
    obtain ⟨q1,q2⟩:=List.pairwise_cons.1 hB
    have hab:a = b:=by
      rcases List.mem_cons.1 ((h a).1 (by simp)) with e | e
      · exact e
      · rcases List.mem_cons.1 ((h b).2 (by simp)) with e' | e'
        · exact e'.symm
        · exact absurd (p1 b e') (bt_asymm (q1 a e))
    subst hab
    rw [zcj p2 q2 fun k=>⟨fun hk=>?_,fun hk=>?_⟩]
    · rcases List.mem_cons.1 ((h k).1 (by simp [hk])) with e | e
      · subst e; exact absurd (p1 _ hk) (bt_irr _ _)
      · exact e
    · rcases List.mem_cons.1 ((h k).2 (by simp [hk])) with e | e
      · subst e; exact absurd (q1 _ hk) (bt_irr _ _)
      · exact e
theorem isT_unique {s:Bool} {seq:List Od} {A:List Int} (hA:IsT s seq A):A = tks s seq :=
  zcj hA.sorted (zcn s seq).sorted fun k=>(hA.mem k).trans ((zcn s seq).mem k).symm
structure Lv where
  side:Int
  ticks:Int
  qty:Int
  count:Int
def Lv.vs (n:Lv):List Value:=[.int .i64 n.side,.int .i64 n.ticks,.int .i64 n.qty,.int .i64 n.count]
theorem Lv.len (o:Lv):o.vs.length = 4:=rfl
def lvAt (sd:Int) (seq:List Od) (k:Int):Lv:=⟨sd,k,sumL (atK seq k),(atK seq k).length⟩
def zbi (s:Bool) (sd:Int) (seq:List Od):List Lv:=(tks s seq).map (lvAt sd seq)
def quOf (s:Bool) (seq:List Od):List Od:=(tks s seq).flatMap (atK seq)
def Nd.lv (n:Nd):Lv:=⟨n.side,n.ticks,n.qty,n.count⟩
theorem zbO {s:Bool} {S:TS} {t:Tr} {sd:Int} {seq:List Od} (hi:TI s S t) (hq:QI S t sd seq):(t.hs.map fun h=>(S.nd h).lv) = zbi s sd seq:=by
  rw [zbi,← isT_unique (isT_of hi hq),List.map_map]
  refine List.map_congr_left fun h hh=>?_
  have hQ:=hq.q h hh
  show Lv.mk _ _ _ _ = Lv.mk _ _ _ _
  rw [hQ.side,hQ.qty,hQ.cnt]
theorem tree_orders {s:Bool} {S:TS} {t:Tr} {sd:Int} {seq:List Od} (hi:TI s S t) (hq:QI S t sd seq):(t.hs.flatMap fun h=>(qs seq (S.nd h).ticks).map fun i=>(S.qo i).od) = quOf s seq:=by
  rw [quOf,← isT_unique (isT_of hi hq),List.flatMap_map]
  rw [List.flatMap_def,List.flatMap_def]
  congr 1
  refine List.map_congr_left fun h hh=>?_
  exact qsF_map _ _ seq 1 (fun i o ho=>hq.od i o ho)
def zOdv:Value:=.agg #[.int .i64 0,.int .i64 0,.int .i64 0,.int .i64 0,.int .i64 0,.string ⟨#[]⟩]
def frOf (q:List Od):Value:=match q.head? with
  | some o=>.tuple #[o.val,.bool true]
  | none=>.tuple #[zOdv,.bool false]
end Go.Proofs.YtdfihaabhichdaaGreat
namespace Go.Proofs.YtdfihaabhichdaaGreat
open Go.RowKit
set_option linter.unusedVariables false

theorem zcc {w:World} {b o n:Nat} (h:w.there b o n) (j:Nat) (hj:j < n):∃ v,w.cell? ⟨b,o + j,none⟩ = some v∧w.frozen? ⟨b,o + j,none⟩ = false:=by
  obtain ⟨v,hv⟩:=Option.isSome_iff_exists.1 (h j hj).1
  exact ⟨v,hv,(h j hj).2⟩
theorem there6 {w:World} {b o:Nat} (h:w.there b o 6) :
    (∃ v,w.cell? ⟨b,o,none⟩ = some v∧w.frozen? ⟨b,o,none⟩ = false)∧(∃ v,w.cell? ⟨b,o + 1,none⟩ = some v∧w.frozen? ⟨b,o + 1,none⟩ = false) ∧
    (∃ v,w.cell? ⟨b,o + 2,none⟩ = some v∧w.frozen? ⟨b,o + 2,none⟩ = false)∧(∃ v,w.cell? ⟨b,o + 3,none⟩ = some v∧w.frozen? ⟨b,o + 3,none⟩ = false) ∧
    (∃ v,w.cell? ⟨b,o + 4,none⟩ = some v∧w.frozen? ⟨b,o + 4,none⟩ = false)∧(∃ v,w.cell? ⟨b,o + 5,none⟩ = some v∧w.frozen? ⟨b,o + 5,none⟩ = false) :=
  ⟨zcc h 0 (by omega),zcc h 1 (by omega),zcc h 2 (by omega),zcc h 3 (by omega),zcc h 4 (by omega),zcc h 5 (by omega)⟩
theorem takeR {α:Type} (l:List α) (k:Nat) (c:α) (h:l[k]? = some c):l.take (k + 1) = l.take k ++ [c]:=by
  obtain ⟨hk,rfl⟩:=List.getElem?_eq_some_iff.1 h
  rw [List.take_succ_eq_append_getElem hk]
theorem Tryz.infoOrder:(Tryz.prog.info? 100).map (fun i=>(i.zero,i.size,i.bytes)) = some (some (.agg #[.int .i64 0,.int .i64 0,.int .i64 0,.int .i64 0,.int .i64 0,.string ⟨#[]⟩]),6,56):=by kernel_rfl
end Go.Proofs.YtdfihaabhichdaaGreat
