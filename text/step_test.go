package text_test

import (
	"bytes"
	"fmt"
	"slices"
	"testing"

	"escritoire/api"
)

// tidy steps till there is nothing left to do: each step that says true leaves what P15.1 tells, and one piece less.
func (k *desk) tidy(what string) int {
	k.t.Helper()
	for n := 0; ; n++ {
		pieces, b, lines := k.x.Pieces(), k.b, k.lines()
		if !k.step(what) {
			k.wantNow(what + ": tidy")
			k.wantNoFit(what)
			return n
		}
		if k.x.Pieces() != pieces-1 || k.x.Len() != len(b) || k.x.Lines() != lines || !bytes.Equal(k.b, b) {
			k.t.Fatalf("%s: step %d leaves %d pieces of %d, %d bytes, %d lines", what, n, k.x.Pieces(), pieces, k.x.Len(), k.x.Lines())
		}
		if n < 30 || n%20 == 0 {
			k.wantNow(fmt.Sprintf("%s: step %d", what, n))
		}
	}
}

// wantNoFit: P15.5: no two neighbours fit into one page, and however often one more step is asked for, nothing is done.
func (k *desk) wantNoFit(what string) {
	k.t.Helper()
	for i := 1; i < len(k.l); i++ {
		if k.l[i-1].n+k.l[i].n <= body {
			k.t.Fatalf("%s: the pieces %d and %d have %d and %d bytes", what, i-1, i, k.l[i-1].n, k.l[i].n)
		}
	}
	ahead := stands(k)
	for range 3 {
		ok, e := k.x.Step()
		if ok {
			k.t.Fatalf("%s: one more step", what)
		}
		k.wantRefused(what, e, api.OK, ahead)
	}
}

// P15.3: neighbours that just fit, and such as just do not; first ones, last ones, in the midst; one behind the other.
func TestStep(t *testing.T) {
	t.Parallel()
	for _, x := range []struct {
		shape []int
		steps int
	}{
		{nil, 0}, {[]int{1}, 0}, {[]int{248}, 0}, {[]int{5, 3}, 1}, {[]int{247, 1}, 1}, {[]int{1, 247}, 1}, {[]int{247, 2}, 0}, {[]int{2, 247}, 0}, {[]int{248, 1}, 0}, {[]int{1, 248}, 0},
		{[]int{124, 124}, 1}, {[]int{124, 125}, 0}, {[]int{125, 124, 124}, 1}, {[]int{125, 124, 125}, 0}, {[]int{200, 200, 48, 1}, 1}, {[]int{200, 40, 10, 238, 1, 1}, 3},
		{[]int{248, 248, 248, 1, 1}, 1}, {[]int{1, 1, 248, 248}, 1}, {[]int{248, 1, 1, 1, 248}, 2}, {[]int{100, 100, 100, 100, 100, 100}, 3}, {slices.Repeat([]int{1}, 30), 29}, {slices.Repeat([]int{60}, 40), 30},
	} {
		for way := range ways {
			each(t, x.shape, way, func(k *desk) {
				what := fmt.Sprint(x.shape)
				if n := k.tidy(what); n != x.steps {
					t.Errorf("%s, way %d: %d steps, want %d", what, way, n, x.steps)
				}
			})
		}
	}
}

// P15.3: the first two that fit are found wherever they stand, also far behind, and where many are ahead of them.
func TestStepFarBehind(t *testing.T) {
	t.Parallel()
	for _, n := range []int{1, 2, 19, 20, 61, 62, 63, 64, 65, 127, 128, 250} {
		k := grown(t, 500, 8, 200, n*body, 100, 100, 200, 3, 4, 5)
		what := fmt.Sprint(n, " full pages")
		k.commit(what, "")
		if steps := k.tidy(what); steps != 4 {
			t.Errorf("%s: %d steps", what, steps)
		}
		k.commit(what, "tidy")
	}
}

// P15.3: pieces that stand on one page are made one on another page, too; the page that nothing reaches any more is dropped.
func TestStepOfParts(t *testing.T) {
	for _, commits := range []bool{false, true} {
		k := grown(t, 64, 8, 200)
		k.insert("in the midst", 90, k.some(248))
		k.delete("again", 90, 248)
		k.wantNow("two parts of a page")
		if commits {
			k.commit("two parts of a page", "")
		}
		free, pages := k.s.Free(), len(own(k.s))
		if steps := k.tidy("two parts of a page"); steps != 1 || k.x.Pieces() != 1 {
			t.Errorf("%d steps, %d pieces", steps, k.x.Pieces())
		}
		if !commits && (k.s.Free() != free || len(own(k.s)) != pages) {
			t.Errorf("%d free, %d own, were %d, %d", k.s.Free(), len(own(k.s)), free, pages)
		}
		k.commit("one page", "")
		// A page that a third part still reaches stays.
		k = grown(t, 64, 8, 200)
		k.insert("in the midst", 90, k.some(248))
		k.insert("behind that", 400, k.some(248))
		k.delete("of the second part", 338, 10)
		if commits {
			k.commit("three parts of a page", "")
		}
		k.delete("what stands between", 90, 248)
		if steps := k.tidy("three parts of a page"); steps != 1 || k.x.Pieces() != 3 {
			t.Errorf("%d steps, %d pieces", steps, k.x.Pieces())
		}
		k.commit("three parts of a page", "")
	}
}

// P15.3, P15.4: steps between other calls, and steps that are taken back.
func TestStepsTakenBack(t *testing.T) {
	for _, commits := range []bool{false, true} {
		k := grown(t, 128, 8, slices.Repeat([]int{50}, 20)...)
		if commits {
			k.commit("all", "")
		}
		for i := range 6 {
			k.keep()
			ahead := stands(k)
			for range 1 + i%3 {
				k.step("one")
			}
			k.wantNow("steps")
			if i%2 == 0 {
				k.back("steps")
				if now := stands(k); now != ahead {
					t.Errorf("%s, was %s", now, ahead)
				}
			}
			k.insert("between", i*9, k.some(i+1))
		}
		k.tidy("all")
		k.commit("all", "")
	}
}
