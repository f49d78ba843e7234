package flag_test

import (
	"math"
	"slices"
	"strings"
	"testing"

	"tributary/api"
	"tributary/causal"
	"tributary/context"
	"tributary/flag"
	"tributary/tree"
)

const (
	most = int64(api.MaxDot)
	inc  = int64(api.MaxInc)
)

// longest and tooLong are texts of MaxText bytes, and of one more.
var (
	longest = strings.Repeat("x", api.MaxText)
	tooLong = longest + "x"
)

// changes are the calls that answer deltas, and whether what they change is on behind them.
var changes = []struct {
	name string
	call func(api.Tree, api.Dot) (api.Causal, api.Errno)
	on   bool
}{{"Enable", flag.Enable, true}, {"Disable", flag.Disable, false}}

// at makes a dot.
func at(dc int, n int64) api.Dot { return api.Dot{DC: dc, N: n} }

// sp makes a span.
func sp(dc int, from, to int64) api.Span { return api.Span{DC: dc, From: from, To: to} }

// leaf makes a tree of entries of these dots alone.
func leaf(l ...api.Dot) api.Tree {
	var t api.Tree
	for _, d := range l {
		t.Entries = append(t.Entries, api.Entry{Dot: d})
	}
	return t
}

// below makes a tree of that path alone, at whose end is t.
func below(t api.Tree, path ...string) api.Tree {
	for i := len(path) - 1; i >= 0; i-- {
		t = api.Tree{Kids: []api.Kid{{Key: path[i], T: t}}}
	}
	return t
}

// both makes a tree of the entries of a, and the kids of b.
func both(a, b api.Tree) api.Tree { return api.Tree{Entries: a.Entries, Kids: b.Kids} }

// some is a tree of entries on each of three levels, a dot of it at two places; it hasn't {0, 3}.
func some() api.Tree {
	return api.Tree{
		Entries: []api.Entry{{Dot: at(0, 1)}, {Dot: at(2, 7), S: "z", N: -3}},
		Kids: []api.Kid{
			{Key: "a", T: leaf(at(0, 2), at(0, 4))},
			{Key: "b", T: both(leaf(at(3, 1)), api.Tree{Kids: []api.Kid{{Key: "a", T: leaf(at(0, 2))}, {Key: "c", T: leaf(at(0, 5))}}})},
			{Key: "c", T: below(leaf(at(1, 5)), "c")},
		},
	}
}

// wrongDots answers dots that aren't right.
func wrongDots() []api.Dot {
	return []api.Dot{
		{}, at(0, 0), at(3, 0), at(0, -1), at(1, math.MinInt64), at(0, most+1), at(3, math.MaxInt64),
		at(-1, 1), at(api.MaxDC, 1), at(math.MinInt, 1), at(math.MaxInt, most),
	}
}

// wrongTrees answers trees that aren't right, each for one cause. None of them has {2, 9}.
func wrongTrees() map[string]api.Tree {
	one := leaf(at(0, 1))
	m := map[string]api.Tree{
		"the zero entry":        {Entries: []api.Entry{{}}},
		"a dot above MaxDot":    leaf(at(0, most+1)),
		"no center":             leaf(at(api.MaxDC, 1)),
		"a center below 0":      leaf(at(-1, 1)),
		"the last dot is none":  leaf(at(0, 1), at(1, 1), at(4, 1)),
		"one dot twice":         leaf(at(0, 2), at(0, 2)),
		"the dots fall":         leaf(at(1, 1), at(0, 2)),
		"a text too long":       {Entries: []api.Entry{{Dot: at(0, 1), S: tooLong}}},
		"a number above MaxInc": {Entries: []api.Entry{{Dot: at(0, 1), N: inc + 1}}},
		"a number below":        {Entries: []api.Entry{{Dot: at(0, 1), N: -inc - 1}}},
		"no key":                both(one, below(one, "")),
		"a key too long":        both(one, below(one, tooLong)),
		"one key twice":         {Entries: one.Entries, Kids: []api.Kid{{Key: "a", T: one}, {Key: "a", T: one}}},
		"the keys fall":         {Entries: one.Entries, Kids: []api.Kid{{Key: "b", T: one}, {Key: "a", T: one}}},
		"an empty kid":          both(one, below(api.Tree{}, "a")),
		"an empty kid of kids":  both(one, below(api.Tree{}, "a", "b")),
		"a wrong kid":           both(one, below(leaf(at(0, 0)), "a")),
		"six levels":            both(one, below(one, "a", "b", "c", "d", "e")),
		"far too deep":          both(one, below(one, strings.Split(strings.Repeat("k", 1<<16), "")...)),
	}
	// A tree of itself has no end.
	round := []api.Kid{{Key: "a", T: one}}
	round[0].T.Kids = round
	m["its own kid"] = api.Tree{Entries: one.Entries, Kids: round}
	return m
}

// rights answers trees, each with dots that it hasn't, and for each of these the dots of both.
func rights() []struct {
	t    api.Tree
	d    api.Dot
	want api.Ctx
} {
	return []struct {
		t    api.Tree
		d    api.Dot
		want api.Ctx
	}{
		// An empty tree, and the least and the greatest dots.
		{api.Tree{}, at(0, 1), api.Ctx{sp(0, 1, 1)}},
		{api.Tree{Entries: []api.Entry{}, Kids: []api.Kid{}}, at(1, 4), api.Ctx{sp(1, 4, 4)}},
		{api.Tree{}, at(3, most), api.Ctx{sp(3, most, most)}},
		// Ahead of, behind, beside the tree's dots, and in a gap of them.
		{leaf(at(1, 4)), at(1, 5), api.Ctx{sp(1, 4, 5)}},
		{leaf(at(1, 4)), at(1, 3), api.Ctx{sp(1, 3, 4)}},
		{leaf(at(1, 4)), at(1, 6), api.Ctx{sp(1, 4, 4), sp(1, 6, 6)}},
		{leaf(at(1, 4)), at(1, 1), api.Ctx{sp(1, 1, 1), sp(1, 4, 4)}},
		{leaf(at(1, 4), at(1, 6)), at(1, 5), api.Ctx{sp(1, 4, 6)}},
		{leaf(at(1, 4), at(1, 8)), at(1, 6), api.Ctx{sp(1, 4, 4), sp(1, 6, 6), sp(1, 8, 8)}},
		{leaf(at(2, most-1)), at(2, most), api.Ctx{sp(2, most-1, most)}},
		{leaf(at(2, 1), at(2, most)), at(2, 2), api.Ctx{sp(2, 1, 2), sp(2, most, most)}},
		// The same number of another center is another dot.
		{leaf(at(1, 4)), at(0, 4), api.Ctx{sp(0, 4, 4), sp(1, 4, 4)}},
		{leaf(at(1, 4)), at(2, 4), api.Ctx{sp(1, 4, 4), sp(2, 4, 4)}},
		{leaf(at(0, 1), at(3, 1)), at(2, 1), api.Ctx{sp(0, 1, 1), sp(2, 1, 1), sp(3, 1, 1)}},
		// What stands below keys counts, though none is at the root.
		{below(leaf(at(0, 2)), "a"), at(0, 1), api.Ctx{sp(0, 1, 2)}},
		{below(leaf(at(0, 2)), "a", "b", "c", longest), at(3, 9), api.Ctx{sp(0, 2, 2), sp(3, 9, 9)}},
		{both(leaf(at(0, 2)), below(leaf(at(0, 2), at(1, 1)), "a", "b")), at(1, 2), api.Ctx{sp(0, 2, 2), sp(1, 1, 2)}},
		{some(), at(0, 3), api.Ctx{sp(0, 1, 5), sp(1, 5, 5), sp(2, 7, 7), sp(3, 1, 1)}},
		{some(), at(2, 1), api.Ctx{sp(0, 1, 2), sp(0, 4, 5), sp(1, 5, 5), sp(2, 1, 1), sp(2, 7, 7), sp(3, 1, 1)}},
		// Texts and numbers of the entries don't matter.
		{api.Tree{Entries: []api.Entry{{Dot: at(0, 1), S: longest, N: inc}, {Dot: at(0, 2), N: -inc}}}, at(0, 3), api.Ctx{sp(0, 1, 3)}},
	}
}

// nothing tells whether c is zero.
func nothing(c api.Causal) bool { return tree.Empty(c.T) && len(c.C) == 0 }

// refused asks whether all three calls answer ErrArg, and nothing else.
func refused(t *testing.T, what string, x api.Tree, d api.Dot) {
	t.Helper()
	if e := flag.Check(x, d); e != api.ErrArg {
		t.Errorf("%s: Check of %v: %v", what, d, e)
	}
	for _, c := range changes {
		if got, e := c.call(x, d); e != api.ErrArg || !nothing(got) {
			t.Errorf("%s: %s by %v: %v %v", what, c.name, d, got, e)
		}
	}
}

func TestDeltas(t *testing.T) {
	for i, c := range rights() {
		if e := flag.Check(c.t, c.d); e != api.OK {
			t.Errorf("%d: Check: %v", i, e)
		}
		got, e := flag.Enable(c.t, c.d)
		if e != api.OK || len(got.T.Kids) != 0 || !slices.Equal(got.T.Entries, []api.Entry{{Dot: c.d}}) || !slices.Equal(got.C, c.want) || !causal.Right(got) {
			t.Errorf("%d: Enable: %v %v, want %v", i, got, e, c.want)
		}
		got, e = flag.Disable(c.t, c.d)
		if e != api.OK || !tree.Empty(got.T) || !slices.Equal(got.C, c.want) || !causal.Right(got) {
			t.Errorf("%d: Disable: %v %v, want %v", i, got, e, c.want)
		}
	}
}

func TestOfWrongDots(t *testing.T) {
	for _, d := range wrongDots() {
		refused(t, "the empty tree", api.Tree{}, d)
		for _, c := range rights() {
			refused(t, "a right tree", c.t, d)
		}
	}
}

func TestOfWrongTrees(t *testing.T) {
	for what, x := range wrongTrees() {
		refused(t, what, x, at(2, 9))
		for _, d := range wrongDots() {
			refused(t, what, x, d)
		}
		if flag.On(x) {
			t.Errorf("%s: is on", what)
		}
	}
}

// A dot that the tree has, at its root or wherever below, names no change of it.
func TestOfDotsThatTheTreeHas(t *testing.T) {
	for _, c := range rights() {
		own, e := tree.Dots(c.t)
		if e != api.OK {
			t.Fatal(c.t, e)
		}
		for _, s := range own {
			for n := s.From; n <= s.To; n++ {
				refused(t, "a dot that is there", c.t, at(s.DC, n))
			}
		}
	}
	for _, path := range [][]string{nil, {"a"}, {"a", "b"}, {"a", "b", "c", "d"}} {
		refused(t, "alone", below(leaf(at(0, 1)), path...), at(0, 1))
		refused(t, "among others", below(leaf(at(0, 1), at(1, 3), at(3, most)), path...), at(1, 3))
		refused(t, "the last one", below(leaf(at(0, 1), at(1, 3), at(3, most)), path...), at(3, most))
	}
}

func TestOn(t *testing.T) {
	for i, c := range []struct {
		t    api.Tree
		want bool
	}{
		{api.Tree{}, false},
		{api.Tree{Entries: []api.Entry{}, Kids: []api.Kid{}}, false},
		{leaf(at(0, 1)), true},
		{leaf(at(3, most)), true},
		{leaf(at(0, 1), at(1, 1), at(2, 1)), true},
		{api.Tree{Entries: []api.Entry{{Dot: at(2, 2), S: longest, N: -inc}}}, true},
		// Its kids' entries aren't its own.
		{below(leaf(at(0, 1)), "a"), false},
		{below(leaf(at(0, 1)), "a", "b", "c", "d"), false},
		{api.Tree{Kids: some().Kids}, false},
		{both(leaf(at(0, 1)), below(leaf(at(0, 1)), "a")), true},
		{some(), true},
	} {
		if flag.On(c.t) != c.want {
			t.Errorf("%d: On(%v): %v", i, c.t, !c.want)
		}
	}
}

// join answers all of l joined.
func join(t *testing.T, l ...api.Causal) api.Causal {
	t.Helper()
	c, e := causal.JoinAll(l...)
	if e != api.OK {
		t.Fatal(l, e)
	}
	return c
}

// Joined to the tree it is on, or off, and nothing else is there, whatever was.
func TestJoined(t *testing.T) {
	for i, c := range rights() {
		own, _ := tree.Dots(c.t)
		// What is known beside the tree's own dots doesn't matter, if it isn't the change's.
		more := context.Minus(api.Ctx{sp(0, 1, 50), sp(1, 1, 50), sp(2, 1, 50), sp(3, 1, 50)}, c.want)
		for _, known := range []api.Ctx{own, context.Union(own, more)} {
			for _, change := range changes {
				d, _ := change.call(c.t, c.d)
				got := join(t, api.Causal{T: c.t, C: known}, d)
				if flag.On(got.T) != change.on || !causal.Same(got, api.Causal{T: d.T, C: context.Union(known, d.C)}) {
					t.Errorf("%d: %s: %v", i, change.name, got)
				}
			}
		}
	}
}

// Enabled at one center, while it is disabled at another one, it is on, whatever it was.
func TestBesideOneAnother(t *testing.T) {
	for i, c := range rights() {
		own, _ := tree.Dots(c.t)
		ground := api.Causal{T: c.t, C: own}
		// Another dot that the tree hasn't.
		other := at((c.d.DC+1)%api.MaxDC, 40)
		for _, a := range changes {
			for _, b := range changes {
				x, e := a.call(c.t, c.d)
				y, f := b.call(c.t, other)
				if e != api.OK || f != api.OK {
					t.Fatal(i, e, f)
				}
				for _, got := range []api.Causal{join(t, ground, x, y), join(t, ground, y, x), join(t, join(t, ground, x), join(t, ground, y)), join(t, x, y)} {
					if flag.On(got.T) != (a.on || b.on) || len(got.T.Kids) > 0 {
						t.Errorf("%d: %s beside %s: %v", i, a.name, b.name, got)
					}
				}
			}
		}
	}
}

// Four changes of one flag, each upon what the deltas of some of those ahead of it make: it is on, if one enabled it that no other one had seen.
func TestAllWaysOfFour(t *testing.T) {
	const n = 4
	// Six bits tell of each change which of those ahead it has seen, four more which of them enable.
	for bits := range 1 << (n*(n-1)/2 + n) {
		var deltas [n]api.Causal
		var seen [n][n]bool
		enables := bits & (1<<n - 1)
		rest := bits >> n
		for j := range n {
			var l []api.Causal
			for i := range j {
				if rest&1 == 1 {
					seen[j][i] = true
					for k := range i {
						seen[j][k] = seen[j][k] || seen[i][k]
					}
				}
				rest >>= 1
			}
			for i := range j {
				if seen[j][i] {
					l = append(l, deltas[i])
				}
			}
			call := flag.Disable
			if enables>>j&1 == 1 {
				call = flag.Enable
			}
			d, e := call(join(t, l...).T, at(j%3, int64(1+j/3)))
			if e != api.OK {
				t.Fatal(bits, j, e)
			}
			deltas[j] = d
		}
		want := 0
		for i := range n {
			last := enables>>i&1 == 1
			for j := range n {
				last = last && !seen[j][i]
			}
			if last {
				want++
			}
		}
		got := join(t, deltas[:]...)
		if flag.On(got.T) != (want > 0) || len(got.T.Entries) != want {
			t.Fatalf("%b: %v, want %d entries", bits, got, want)
		}
	}
}

// Of many entries and many kids.
func TestOfMany(t *testing.T) {
	const n = 1 << 15
	var x api.Tree
	var want api.Ctx
	for i := range int64(n) {
		x.Entries = append(x.Entries, api.Entry{Dot: at(1, 2*i+1)})
		want = append(want, sp(1, 2*i+1, 2*i+1))
	}
	for i := range int64(n) {
		x.Kids = append(x.Kids, api.Kid{Key: string([]byte{1 + byte(i>>8), byte(i)}), T: leaf(at(2, i+1))})
	}
	want = append(want, sp(2, 1, n+1))
	for _, c := range changes {
		if got, e := c.call(x, at(2, n+1)); e != api.OK || flag.On(got.T) != c.on || !slices.Equal(got.C, want) {
			t.Error(c.name, e, len(got.T.Entries), len(got.C))
		}
		refused(t, "of many", x, at(1, n+1))
		refused(t, "of many", x, at(2, n/2))
	}
}

// roomy answers t with spare room, in which something stands, behind each of its lists.
func roomy(t api.Tree) api.Tree {
	var y api.Tree
	n, m := len(t.Entries), len(t.Kids)
	y.Entries = append(slices.Clone(t.Entries), api.Entry{S: "spare"}, api.Entry{S: "spare"})[:n]
	for _, k := range t.Kids {
		y.Kids = append(y.Kids, api.Kid{Key: k.Key, T: roomy(k.T)})
	}
	y.Kids = append(y.Kids, api.Kid{Key: "spare"}, api.Kid{Key: "spare"})[:m]
	return y
}

// intact tells whether y is t as roomy made it.
func intact(t, y api.Tree) bool {
	n, m := len(t.Entries), len(t.Kids)
	if !slices.Equal(y.Entries, t.Entries) || !slices.Equal(y.Entries[n:n+2], []api.Entry{{S: "spare"}, {S: "spare"}}) {
		return false
	}
	for _, k := range y.Kids[m : m+2] {
		if k.Key != "spare" || !tree.Empty(k.T) {
			return false
		}
	}
	return slices.EqualFunc(t.Kids, y.Kids, func(a, b api.Kid) bool { return a.Key == b.Key && intact(a.T, b.T) })
}

// What is handed in stays as it is, its spare room too, and what is answered is new memory.
func TestAnswersStandAlone(t *testing.T) {
	for i, c := range rights() {
		x := roomy(c.t)
		for _, change := range changes {
			for range 2 {
				got, e := change.call(x, c.d)
				if e != api.OK || flag.On(got.T) != change.on || !slices.Equal(got.C, c.want) {
					t.Errorf("%d: %s, perhaps again: %v %v", i, change.name, got, e)
				}
				clear(got.T.Entries[:cap(got.T.Entries)])
				clear(got.T.Kids[:cap(got.T.Kids)])
				clear(got.C[:cap(got.C)])
			}
		}
		flag.Check(x, c.d)
		flag.On(x)
		if !intact(c.t, x) {
			t.Errorf("%d: what was handed in, or its spare room, is changed: %v", i, x)
		}
	}
}
