package counter_test

import (
	"math"
	"slices"
	"strings"
	"testing"

	"tributary/api"
	"tributary/causal"
	"tributary/context"
	"tributary/counter"
	"tributary/flag"
	"tributary/tree"
)

const (
	most = int64(api.MaxDot)
	inc  = int64(api.MaxInc)
)

// longest and tooLong are texts of MaxText bytes, and of one more.
var (
	longest = strings.Repeat("x", api.MaxText)
	tooLong = longest + "x"
)

// at makes a dot.
func at(dc int, n int64) api.Dot { return api.Dot{DC: dc, N: n} }

// sp makes a span.
func sp(dc int, from, to int64) api.Span { return api.Span{DC: dc, From: from, To: to} }

// en makes an entry that counts v.
func en(dc int, n, v int64) api.Entry { return api.Entry{Dot: at(dc, n), N: v} }

// leaf makes a tree of entries alone.
func leaf(l ...api.Entry) api.Tree { return api.Tree{Entries: l} }

// below makes a tree of that path alone, at whose end is t.
func below(t api.Tree, path ...string) api.Tree {
	for i := len(path) - 1; i >= 0; i-- {
		t = api.Tree{Kids: []api.Kid{{Key: path[i], T: t}}}
	}
	return t
}

// both makes a tree of the entries of a, and the kids of b.
func both(a, b api.Tree) api.Tree { return api.Tree{Entries: a.Entries, Kids: b.Kids} }

// some is a tree of entries on each of three levels, a dot of it at two places; it hasn't {0, 3}.
func some() api.Tree {
	return api.Tree{
		Entries: []api.Entry{en(0, 1, 4), {Dot: at(2, 7), S: "z", N: -3}},
		Kids: []api.Kid{
			{Key: "a", T: leaf(en(0, 2, 100), en(0, 4, 100))},
			{Key: "b", T: both(leaf(en(3, 1, 100)), api.Tree{Kids: []api.Kid{{Key: "a", T: leaf(en(0, 2, 100))}, {Key: "c", T: leaf(en(0, 5, 100))}}})},
			{Key: "c", T: below(leaf(en(1, 5, 100)), "c")},
		},
	}
}

// many makes a tree of n entries by center 0, which count 1, 2 and on.
func many(n int) api.Tree {
	var t api.Tree
	for i := range int64(n) {
		t.Entries = append(t.Entries, en(0, i+1, i+1))
	}
	return t
}

// wrongDots answers dots that aren't right.
func wrongDots() []api.Dot {
	return []api.Dot{
		{}, at(0, 0), at(3, 0), at(0, -1), at(1, math.MinInt64), at(0, most+1), at(3, math.MaxInt64),
		at(-1, 1), at(api.MaxDC, 1), at(math.MinInt, 1), at(math.MaxInt, most),
	}
}

// wrongNumbers answers numbers that may not be counted.
func wrongNumbers() []int64 {
	return []int64{inc + 1, -inc - 1, inc + 2, -inc - 2, 2 * inc, -2 * inc, math.MaxInt64, math.MinInt64, math.MaxInt64 - 1, math.MinInt64 + 1}
}

// numbers answers numbers that may be counted.
func numbers() []int64 {
	return []int64{0, 1, -1, 2, 3, -3, 1 << 31, -1 << 31, 1<<32 + 1, -1<<32 - 1, inc - 1, 1 - inc, inc, -inc}
}

// wrongTrees answers trees that aren't right, each for one cause, with an entry beside it that counts where that may be. None of them has {2, 9}.
func wrongTrees() map[string]api.Tree {
	one := leaf(en(0, 1, 5))
	m := map[string]api.Tree{
		"the zero entry":        {Entries: []api.Entry{{}}},
		"a number below 1":      leaf(en(0, 0, 5)),
		"a dot above MaxDot":    leaf(en(0, most+1, 5)),
		"no center":             leaf(en(api.MaxDC, 1, 5)),
		"a center below 0":      leaf(en(-1, 1, 5)),
		"the last dot is none":  leaf(en(0, 1, 5), en(1, 1, 5), en(4, 1, 5)),
		"one dot twice":         leaf(en(0, 2, 5), en(0, 2, 5)),
		"the dots fall":         leaf(en(1, 1, 5), en(0, 2, 5)),
		"a text too long":       {Entries: []api.Entry{{Dot: at(0, 1), S: tooLong, N: 5}}},
		"a number above MaxInc": leaf(en(0, 1, inc+1)),
		"a number too low":      leaf(en(0, 1, -inc-1)),
		"no key":                both(one, below(one, "")),
		"a key too long":        both(one, below(one, tooLong)),
		"one key twice":         {Entries: one.Entries, Kids: []api.Kid{{Key: "a", T: one}, {Key: "a", T: one}}},
		"the keys fall":         {Entries: one.Entries, Kids: []api.Kid{{Key: "b", T: one}, {Key: "a", T: one}}},
		"an empty kid":          both(one, below(api.Tree{}, "a")),
		"an empty kid of kids":  both(one, below(api.Tree{}, "a", "b")),
		"a wrong kid":           both(one, below(leaf(en(0, 0, 5)), "a")),
		"six levels":            both(one, below(one, "a", "b", "c", "d", "e")),
		"far too deep":          both(one, below(one, strings.Split(strings.Repeat("k", 1<<16), "")...)),
	}
	// A tree of itself has no end.
	round := []api.Kid{{Key: "a", T: one}}
	round[0].T.Kids = round
	m["its own kid"] = api.Tree{Entries: one.Entries, Kids: round}
	return m
}

// rights answers trees, each with a dot that it hasn't.
func rights() []struct {
	t api.Tree
	d api.Dot
} {
	return []struct {
		t api.Tree
		d api.Dot
	}{
		// An empty tree, and the least and the greatest dots.
		{api.Tree{}, at(0, 1)},
		{api.Tree{Entries: []api.Entry{}, Kids: []api.Kid{}}, at(1, 4)},
		{api.Tree{}, at(3, most)},
		// Ahead of, behind, beside the tree's dots, and in a gap of them.
		{leaf(en(1, 4, 7)), at(1, 5)},
		{leaf(en(1, 4, 7)), at(1, 3)},
		{leaf(en(1, 4, 7)), at(1, 9)},
		{leaf(en(1, 4, 7), en(1, 6, -9)), at(1, 5)},
		{leaf(en(2, most-1, 7)), at(2, most)},
		// The same number of another center is another dot.
		{leaf(en(1, 4, 7)), at(0, 4)},
		{leaf(en(1, 4, 7)), at(2, 4)},
		{leaf(en(0, 1, 2), en(3, 1, 3)), at(2, 1)},
		// What stands below keys.
		{below(leaf(en(0, 2, 5)), "a"), at(0, 1)},
		{below(leaf(en(0, 2, 5)), "a", "b", "c", longest), at(3, 9)},
		{both(leaf(en(0, 2, 5)), below(leaf(en(0, 2, 6), en(1, 1, 7)), "a", "b")), at(1, 2)},
		{some(), at(0, 3)},
		{some(), at(2, 1)},
		// The greatest and the least numbers, a text, and room for one more alone.
		{api.Tree{Entries: []api.Entry{{Dot: at(0, 1), S: longest, N: inc}, {Dot: at(0, 2), N: inc}}}, at(0, 3)},
		{leaf(en(0, 1, -inc), en(0, 2, -inc)), at(0, 3)},
		{many(23), at(0, 24)},
		{many(23), at(1, 1)},
	}
}

// nothing tells whether c is zero.
func nothing(c api.Causal) bool { return tree.Empty(c.T) && len(c.C) == 0 }

// refused asks whether Inc answers that error, and nothing else.
func refused(t *testing.T, what string, want api.Errno, x api.Tree, n int64, d api.Dot) {
	t.Helper()
	if got, e := counter.Inc(x, n, d); e != want || !nothing(got) {
		t.Errorf("%s: Inc of %d by %v: %v %v, want %v", what, n, d, got, e, want)
	}
}

// delta is what Inc should answer.
func delta(n int64, d api.Dot) api.Causal {
	return api.Causal{T: api.Tree{Entries: []api.Entry{{Dot: d, N: n}}}, C: api.Ctx{sp(d.DC, d.N, d.N)}}
}

func TestInc(t *testing.T) {
	for i, c := range rights() {
		for _, n := range numbers() {
			got, e := counter.Inc(c.t, n, c.d)
			if e != api.OK || !causal.Same(got, delta(n, c.d)) {
				t.Errorf("%d: Inc of %d: %v %v, want %v", i, n, got, e, delta(n, c.d))
			}
			if counter.Value(got.T) != n {
				t.Errorf("%d: Value is %d, want %d", i, counter.Value(got.T), n)
			}
		}
	}
}

func TestIncOfWrongNumbers(t *testing.T) {
	for _, c := range rights() {
		for _, n := range wrongNumbers() {
			refused(t, "a wrong number", api.ErrArg, c.t, n, c.d)
		}
	}
}

func TestIncOfWrongDots(t *testing.T) {
	for _, d := range wrongDots() {
		for _, c := range rights() {
			refused(t, "a wrong dot", api.ErrArg, c.t, 1, d)
		}
	}
}

func TestOfWrongTrees(t *testing.T) {
	for what, x := range wrongTrees() {
		refused(t, what, api.ErrArg, x, 1, at(2, 9))
		refused(t, what, api.ErrArg, x, inc+1, at(2, 9))
		refused(t, what, api.ErrArg, x, 1, api.Dot{})
		if v := counter.Value(x); v != 0 {
			t.Errorf("%s: Value: %d", what, v)
		}
	}
}

// A dot that the tree has, at its root or wherever below, names no change of it.
func TestOfDotsThatTheTreeHas(t *testing.T) {
	for _, c := range rights() {
		own, e := tree.Dots(c.t)
		if e != api.OK {
			t.Fatal(c.t, e)
		}
		for _, s := range own {
			for n := s.From; n <= s.To; n++ {
				refused(t, "a dot that is there", api.ErrArg, c.t, 1, at(s.DC, n))
			}
		}
	}
	for _, path := range [][]string{nil, {"a"}, {"a", "b"}, {"a", "b", "c", "d"}} {
		refused(t, "alone", api.ErrArg, below(leaf(en(0, 1, 1)), path...), 1, at(0, 1))
		refused(t, "among others", api.ErrArg, below(leaf(en(0, 1, 1), en(1, 3, 1), en(3, most, 1)), path...), 1, at(1, 3))
		refused(t, "the last one", api.ErrArg, below(leaf(en(0, 1, 1), en(1, 3, 1), en(3, most, 1)), path...), 1, at(3, most))
	}
}

// Of entries there is room for MaxEntries, whatever they count; those of its kids aren't the tree's.
func TestFull(t *testing.T) {
	for n := range 60 {
		for _, x := range []api.Tree{many(n), both(many(n), below(many(30), "a")), both(many(n), below(leaf(en(1, 1, 1)), "a", "b"))} {
			if n < 24 {
				for _, v := range numbers() {
					if got, e := counter.Inc(x, v, at(2, 1)); e != api.OK || !causal.Same(got, delta(v, at(2, 1))) {
						t.Errorf("%d entries: Inc of %d: %v %v", n, v, got, e)
					}
				}
				continue
			}
			for _, v := range numbers() {
				refused(t, "full", api.ErrFull, x, v, at(2, 1))
			}
		}
	}
	var wide api.Tree
	for _, k := range []string{"a", "b", "c"} {
		wide.Kids = append(wide.Kids, api.Kid{Key: k, T: many(24)})
	}
	if got, e := counter.Inc(wide, 1, at(2, 1)); e != api.OK || !causal.Same(got, delta(1, at(2, 1))) {
		t.Error(got, e)
	}
}

// Of a full counter, too, the tree, the dot and the number are asked first.
func TestFullIsAskedLast(t *testing.T) {
	for _, n := range []int{24, 25, 59} {
		for _, v := range wrongNumbers() {
			refused(t, "full", api.ErrArg, many(n), v, at(2, 1))
		}
		for _, d := range append(wrongDots(), at(0, 1), at(0, int64(n))) {
			refused(t, "full", api.ErrArg, many(n), 1, d)
		}
		wrong := many(n)
		wrong.Entries[n-1].N = inc + 1
		refused(t, "full", api.ErrArg, wrong, 1, at(2, 1))
		refused(t, "full", api.ErrArg, both(many(n), below(api.Tree{}, "a")), 1, at(2, 1))
	}
}

func TestValue(t *testing.T) {
	for i, c := range []struct {
		t    api.Tree
		want int64
	}{
		{api.Tree{}, 0},
		{api.Tree{Entries: []api.Entry{}, Kids: []api.Kid{}}, 0},
		{leaf(en(0, 1, 0)), 0},
		{leaf(en(0, 1, 3), en(1, 1, -1)), 2},
		{leaf(en(0, 1, 3), en(0, 2, 3), en(3, most, 3)), 9},
		{leaf(en(0, 1, -3), en(0, 2, -4)), -7},
		{leaf(en(0, 1, 5), en(0, 2, -5)), 0},
		{leaf(en(0, 1, inc), en(0, 2, inc)), 2 * inc},
		{leaf(en(0, 1, -inc), en(0, 2, -inc)), -2 * inc},
		{api.Tree{Entries: []api.Entry{{Dot: at(0, 1), S: "9"}, {Dot: at(0, 2), S: longest, N: 2}}}, 2},
		// Its kids' entries aren't its own.
		{below(leaf(en(0, 1, 5)), "a"), 0},
		{below(leaf(en(0, 1, 5)), "a", "b", "c", "d"), 0},
		{both(leaf(en(0, 1, 5)), below(leaf(en(0, 1, 6)), "a")), 5},
		{some(), 1},
		{many(24), 300},
		// What has more than MaxEntries entries is right, and counts them all.
		{many(25), 325},
		{many(5000), 5000 * 5001 / 2},
	} {
		if got := counter.Value(c.t); got != c.want {
			t.Errorf("%d: Value: %d, want %d", i, got, c.want)
		}
	}
}

// The sum is of 64 bits, and goes round from the greatest number to the least one, and back.
func TestValueGoesRound(t *testing.T) {
	// So many of MaxInc are 2^63.
	const n = 1 << 23
	l := make([]api.Entry, n+1)
	for i := range l {
		l[i] = en(0, int64(i+1), inc)
	}
	for _, c := range []struct {
		l    []api.Entry
		want int64
	}{
		{l[:n-1], math.MaxInt64 - inc + 1},
		{l[:n], math.MinInt64},
		{l, math.MinInt64 + inc},
	} {
		if got := counter.Value(leaf(c.l...)); got != c.want {
			t.Errorf("of %d: %d, want %d", len(c.l), got, c.want)
		}
	}
	for i := range l {
		l[i].N = -inc
	}
	if got := counter.Value(leaf(l[:n]...)); got != math.MinInt64 {
		t.Error(got)
	}
	if got := counter.Value(leaf(l...)); got != math.MaxInt64-inc+1 {
		t.Error(got)
	}
}

// join answers all of l joined.
func join(t *testing.T, l ...api.Causal) api.Causal {
	t.Helper()
	c, e := causal.JoinAll(l...)
	if e != api.OK {
		t.Fatal(l, e)
	}
	return c
}

// Joined to the tree, once or again, n is counted once, and all else is as it was.
func TestJoined(t *testing.T) {
	for i, c := range rights() {
		own, _ := tree.Dots(c.t)
		ground := api.Causal{T: c.t, C: own}
		for _, n := range numbers() {
			d, _ := counter.Inc(c.t, n, c.d)
			want := tree.Clone(c.t)
			want.Entries = append(want.Entries, api.Entry{Dot: c.d, N: n})
			slices.SortFunc(want.Entries, func(a, b api.Entry) int {
				if a.Dot.DC != b.Dot.DC {
					return a.Dot.DC - b.Dot.DC
				}
				return int(a.Dot.N - b.Dot.N)
			})
			for _, got := range []api.Causal{join(t, ground, d), join(t, d, ground), join(t, ground, d, ground, d)} {
				if !causal.Same(got, api.Causal{T: want, C: context.Union(own, d.C)}) || counter.Value(got.T) != counter.Value(c.t)+n {
					t.Errorf("%d: Inc of %d: %v, want %v", i, n, got, want)
				}
			}
		}
	}
}

// What is counted beside one another counts all; what is counted while all that was there is taken away elsewhere stays alone.
func TestBesideOneAnother(t *testing.T) {
	for i, c := range rights() {
		own, _ := tree.Dots(c.t)
		ground := api.Causal{T: c.t, C: own}
		x, e := counter.Inc(c.t, 30, c.d)
		// Other dots that the tree hasn't.
		y, f := counter.Inc(c.t, -4, at((c.d.DC+1)%api.MaxDC, 40))
		z, g := flag.Disable(c.t, at((c.d.DC+2)%api.MaxDC, 40))
		if e != api.OK || f != api.OK || g != api.OK {
			t.Fatal(i, e, f, g)
		}
		was := counter.Value(c.t)
		for _, got := range []api.Causal{join(t, ground, x, y), join(t, y, x, ground), join(t, join(t, ground, y), join(t, ground, x))} {
			if counter.Value(got.T) != was+26 {
				t.Errorf("%d: %d, want %d", i, counter.Value(got.T), was+26)
			}
		}
		for _, got := range []api.Causal{join(t, ground, x, z), join(t, z, x), join(t, join(t, ground, z), join(t, ground, x))} {
			if counter.Value(got.T) != 30 || len(got.T.Kids) > 0 {
				t.Errorf("%d: %v, want 30 alone", i, got)
			}
		}
		if got := join(t, x, y, z, ground); counter.Value(got.T) != 26 {
			t.Errorf("%d: %v, want 26", i, got)
		}
	}
}

// Four changes, each upon what the deltas of some of those ahead of it make: whatever they had seen, all are counted.
func TestAllWaysOfFour(t *testing.T) {
	const n = 4
	counts := [n]int64{1, -20, 300, 0}
	for bits := range 1 << (n * (n - 1) / 2) {
		var deltas [n]api.Causal
		rest := bits
		for j := range n {
			var l []api.Causal
			for i := range j {
				if rest&1 == 1 {
					l = append(l, deltas[i])
				}
				rest >>= 1
			}
			d, e := counter.Inc(join(t, l...).T, counts[j], at(j%3, int64(1+j/3)))
			if e != api.OK {
				t.Fatal(bits, j, e)
			}
			deltas[j] = d
		}
		got := join(t, deltas[:]...)
		if counter.Value(got.T) != 281 || len(got.T.Entries) != n {
			t.Fatalf("%b: %v", bits, got)
		}
	}
}

// A counter fills one by one; what is taken away makes room.
func TestFilled(t *testing.T) {
	var c api.Causal
	for n := range int64(24) {
		d, e := counter.Inc(c.T, n, at(int(n%4), n+1))
		if e != api.OK {
			t.Fatal(n, e)
		}
		c = join(t, c, d)
	}
	refused(t, "full", api.ErrFull, c.T, 1, at(0, 50))
	if counter.Value(c.T) != 276 {
		t.Error(c)
	}
	z, e := flag.Disable(c.T, at(0, 50))
	if e != api.OK {
		t.Fatal(e)
	}
	c = join(t, c, z)
	d, e := counter.Inc(c.T, 7, at(0, 51))
	if c = join(t, c, d); e != api.OK || counter.Value(c.T) != 7 {
		t.Error(c, e)
	}
}

// roomy answers t with spare room, in which something stands, behind each of its lists.
func roomy(t api.Tree) api.Tree {
	var y api.Tree
	n, m := len(t.Entries), len(t.Kids)
	y.Entries = append(slices.Clone(t.Entries), api.Entry{S: "spare"}, api.Entry{S: "spare"})[:n]
	for _, k := range t.Kids {
		y.Kids = append(y.Kids, api.Kid{Key: k.Key, T: roomy(k.T)})
	}
	y.Kids = append(y.Kids, api.Kid{Key: "spare"}, api.Kid{Key: "spare"})[:m]
	return y
}

// intact tells whether y is t as roomy made it.
func intact(t, y api.Tree) bool {
	n, m := len(t.Entries), len(t.Kids)
	if !slices.Equal(y.Entries, t.Entries) || !slices.Equal(y.Entries[n:n+2], []api.Entry{{S: "spare"}, {S: "spare"}}) {
		return false
	}
	for _, k := range y.Kids[m : m+2] {
		if k.Key != "spare" || !tree.Empty(k.T) {
			return false
		}
	}
	return slices.EqualFunc(t.Kids, y.Kids, func(a, b api.Kid) bool { return a.Key == b.Key && intact(a.T, b.T) })
}

// What is handed in stays as it is, its spare room too, and what is answered is new memory.
func TestAnswersStandAlone(t *testing.T) {
	for i, c := range rights() {
		x := roomy(c.t)
		for range 2 {
			got, e := counter.Inc(x, 3, c.d)
			if e != api.OK || !causal.Same(got, delta(3, c.d)) || counter.Value(x) != counter.Value(c.t) {
				t.Errorf("%d: perhaps again: %v %v", i, got, e)
			}
			clear(got.T.Entries[:cap(got.T.Entries)])
			clear(got.T.Kids[:cap(got.T.Kids)])
			clear(got.C[:cap(got.C)])
		}
		if !intact(c.t, x) {
			t.Errorf("%d: what was handed in, or its spare room, is changed: %v", i, x)
		}
	}
}
