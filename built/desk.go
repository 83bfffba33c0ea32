package built

import (
	"slices"

	"blueline/api"
	"blueline/note"
	"blueline/sheet"
)

// desk is machines at work.
type desk struct {
	api.Built
	drawings []int      // of the register, in increasing order
	parts    []api.Ref  // all issues of parts and standard parts, in order
	counts   []api.Span // of old pieces: none where pieces are that come from no heap, then those of each heap
}

// lay returns machines as they are worked on, and Check's error of them.
func lay(b api.Built) (desk, api.Errno) {
	if e := note.Check(b.Notes); e != api.OK {
		return desk{}, e
	}
	drawings, e := sheet.Drawings(b.Notes.Register)
	if e != api.OK {
		return desk{}, e
	}
	w := desk{Built: b, drawings: drawings}
	for _, x := range b.Notes.Register.Issues {
		if x.Kind != api.KindAssembly {
			w.parts = append(w.parts, api.Ref{Drawing: x.Drawing, Letter: x.Letter})
		}
	}
	if !w.right() {
		return desk{}, api.ErrBuilt
	}
	w.counts = []api.Span{{}}
	for _, h := range b.Heaps {
		w.counts = append(w.counts, h.Count)
	}
	return w, api.OK
}

func issueOf(h api.Heap) api.Ref { return api.Ref{Drawing: h.Drawing, Letter: h.Letter} }

// nextTo returns the issue that machines have which take from a heap.
func nextTo(h api.Heap) api.Ref { return api.Ref{Drawing: h.Drawing, Letter: h.Letter + 1} }

// told returns the issue of which a report tells.
func told(r api.Report) api.Ref { return api.Ref{Drawing: r.Drawing, Letter: r.Letter} }

// copied returns machines in memory of their own.
func copied(b api.Built) (api.Built, api.Errno) {
	r, e := sheet.Merge(b.Notes.Register, b.Notes.Register) // The same register (P2.8), in memory of its own.
	if e != api.OK {
		return api.Built{}, e
	}
	b.Notes = api.Notes{Register: r, Notes: slices.Clone(b.Notes.Notes)}
	b.Machines, b.Heaps, b.Reports = slices.Clone(b.Machines), slices.Clone(b.Heaps), slices.Clone(b.Reports)
	return b, api.OK
}
