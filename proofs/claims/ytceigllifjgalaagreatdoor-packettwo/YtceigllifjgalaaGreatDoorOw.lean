import Derived.Test.YtceigllifjgalaaGreatDoorKc
import Derived.Lib.LazyBuf
import Derived.Test.YtceigllifjgalaaGreatDoorPPkc
namespace Go.Proofs.YtceigllifjgalaaGreatDoor
open Go Go.RowKit
open Pkt (Pk Cn Sl)
set_option linter.unusedSimpArgs false
set_option linter.unusedVariables false
def Ow (B e es:Nat) (w:World) (s:Sl):Prop:=∃ L,w.ownsRow B e es (.slice s.a s.n s.c) s.n L
def NBv (v u:Value):Prop:=∀ k,v.ownBlock=some k→u.ownBlock≠some k
theorem Ow.keep {B e es:Nat} {w w':World} {s:Sl} (h:Ow B e es w s) (hk:∀ k,B≤k→k<w.heap.size→w'.heap[k]?=w.heap[k]?):Ow B e es w' s:=by
 obtain ⟨L,h1,h2⟩:=h
 refine ⟨L,h1,?_⟩
 rcases h2 with q | ⟨g,cap,cur,q,hb,hg,r⟩
 · exact .inl q
 · exact .inr ⟨g,cap,cur,q,hb,(hk g hb (lt_of_block hg)).trans hg,r⟩
theorem Ow.blk {B e es:Nat} {w:World} {s:Sl} (h:Ow B e es w s) {k:Nat} (hk:(Value.slice s.a s.n s.c).ownBlock=some k):B≤k∧k<w.heap.size:=by
 obtain ⟨L,ho⟩:=h
 exact ho.lt k hk
def six (p:Pk):List Value:=[.slice p.wP.a p.wP.n p.wP.c,.slice p.pass.a p.pass.n p.pass.c,.slice p.mP.a p.mP.n p.mP.c,.slice p.asks.a p.asks.n p.asks.c,.slice p.codes.a p.codes.n p.codes.c,.slice p.filters.a p.filters.n p.filters.c]
structure Ows (B:Nat) (w:World) (p:Pk):Prop where
 wP:Ow B 5 1 w p.wP
 pass:Ow B 5 1 w p.pass
 mP:Ow B 5 1 w p.mP
 asks:Ow B 98 2 w p.asks
 codes:Ow B 3 1 w p.codes
 filters:Ow B 9 1 w p.filters
 ps:(six p).Pairwise NBv
theorem Ows.keep {B:Nat} {w w':World} {p:Pk} (h:Ows B w p) (hk:∀ k,B≤k→k<w.heap.size→w'.heap[k]?=w.heap[k]?):Ows B w' p :=
 ⟨h.wP.keep hk,h.pass.keep hk,h.mP.keep hk,h.asks.keep hk,h.codes.keep hk,h.filters.keep hk,h.ps⟩
theorem Ows.below {B:Nat} {w w':World} {p:Pk} (h:Ows B w p) (hb:Below w.heap.size w w'):Ows B w' p:=h.keep (fun k _ hk=>hb.block k hk)
end Go.Proofs.YtceigllifjgalaaGreatDoor
