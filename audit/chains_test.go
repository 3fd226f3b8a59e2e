package audit_test

import (
	"fmt"
	"math/rand"
	"slices"
	"testing"

	"escritoire/api"
	"escritoire/audit"
	"escritoire/device"
)

// chainPages are those of the world's chains, the state's first.
func (w *world) chainPages() []int {
	var l []int
	for _, page := range []int{w.super.State, w.super.Free} {
		for ; page != 0; page = w.links[page].next {
			l = append(l, page)
		}
	}
	return l
}

// Chains tells what Open tells, by as many reads, and the chains' pages in their order.
func TestChains(t *testing.T) {
	r := rand.New(rand.NewSource(51))
	for i := range 60 {
		w := bare(r, 8+r.Intn(4000))
		if i%2 == 0 {
			w = grown(r, 330, anyShape(r))
		}
		if i%3 > 0 {
			w.hold(lines(r, 1+r.Intn(900)))
		}
		d, other := w.at(i%2), w.at(i%2)
		report, chains, e := audit.Chains(d)
		if e != api.OK || !sameReport(report, w.report(i%2)) || !slices.Equal(chains, w.chainPages()) {
			t.Errorf("world %d: Chains = %s, %v, %v, want %v", i, short(report), chains, e, w.chainPages())
		}
		audit.Open(other)
		if d.Ops() != other.Ops() {
			t.Errorf("world %d: %d ops, those of Open are %d", i, d.Ops(), other.Ops())
		}
		clear(chains[:cap(chains)])
		if !sameReport(report, w.report(i%2)) {
			t.Errorf("world %d: the chains share memory with the report", i)
		}
	}
}

// Beside an error of Open's there are no chains.
func TestNoChains(t *testing.T) {
	w := grown(rand.New(rand.NewSource(52)), 64, leanest(2)).hold(make([]byte, 300))
	refused := func(what string, d *device.Device, want api.Errno) {
		t.Helper()
		if r, chains, e := audit.Chains(d); e != want || !isZero(r) || len(chains) != 0 {
			t.Errorf("%s: Chains = %s, %v, %v, want nothing, %v", what, short(r), chains, e, want)
		}
	}
	refused("no device", nil, api.ErrArg)
	fresh, _ := device.New(8)
	refused("a new device", fresh, api.ErrCorrupt)
	reads := 2 + len(w.pages())
	for n := range reads {
		d := w.at(0)
		d.Outcomes(append(make([]byte, n), 1))
		refused(fmt.Sprint("read ", n, " fails"), d, api.ErrIO)
	}
	d := w.at(0)
	d.Write(w.super.Free, make([]byte, api.PageSize))
	refused("no free map", d, api.ErrCorrupt)
}
