package causal_test

import (
	"math"
	"slices"
	"strconv"
	"strings"
	"testing"

	"tributary/api"
	"tributary/causal"
	"tributary/context"
	"tributary/tree"
)

const (
	most = int64(api.MaxDot)
	inc  = int64(api.MaxInc)
)

// longest and tooLong are texts of MaxText bytes, and of one more.
var (
	longest = strings.Repeat("x", api.MaxText)
	tooLong = longest + "x"
)

// en makes an entry.
func en(dc int, n int64, s string, v int64) api.Entry {
	return api.Entry{Dot: api.Dot{DC: dc, N: n}, S: s, N: v}
}

// leaf makes a tree of entries alone.
func leaf(l ...api.Entry) api.Tree { return api.Tree{Entries: l} }

// below makes a tree of that path alone, at whose end is t.
func below(t api.Tree, path ...string) api.Tree {
	for i := len(path) - 1; i >= 0; i-- {
		t = api.Tree{Kids: []api.Kid{{Key: path[i], T: t}}}
	}
	return t
}

// of makes a context of spans.
func of(l ...api.Span) api.Ctx { return l }

// all answers the context of all dots.
func all() api.Ctx {
	return of(api.Span{DC: 0, From: 1, To: most}, api.Span{DC: 1, From: 1, To: most}, api.Span{DC: 2, From: 1, To: most}, api.Span{DC: 3, From: 1, To: most})
}

// known makes what is known of a tree and spans.
func known(t api.Tree, l ...api.Span) api.Causal { return api.Causal{T: t, C: l} }

// some is of entries on each of three levels, a dot of it at two places, its context with gaps.
func some() api.Causal {
	return known(api.Tree{
		Entries: []api.Entry{en(0, 1, "", 0), en(2, 7, "z", -3)},
		Kids: []api.Kid{
			{Key: "a", T: leaf(en(0, 2, "x", 1), en(0, 4, "x", 1))},
			{Key: "b", T: api.Tree{
				Entries: []api.Entry{en(3, 1, "", 5)},
				Kids:    []api.Kid{{Key: "a", T: leaf(en(0, 2, "q", 9))}, {Key: "c", T: leaf(en(0, 4, "y", 0))}},
			}},
			{Key: "c", T: below(leaf(en(1, 5, "", inc)), "c")},
		},
	}, api.Span{DC: 0, From: 1, To: 2}, api.Span{DC: 0, From: 4, To: 6}, api.Span{DC: 1, From: 5, To: 5}, api.Span{DC: 2, From: 2, To: 9}, api.Span{DC: 3, From: 1, To: 1})
}

// rights answers what may be known, no two of them the same, the first one nothing.
func rights() []api.Causal {
	return []api.Causal{
		{},
		known(api.Tree{}, api.Span{From: 1, To: 1}),
		known(api.Tree{}, api.Span{From: 5, To: 6}),
		known(api.Tree{}, api.Span{DC: 3, From: most, To: most}),
		{C: all()},
		known(leaf(en(0, 1, "", 0)), api.Span{From: 1, To: 1}),
		known(leaf(en(0, 1, "", 0)), api.Span{From: 1, To: 2}),
		known(leaf(en(0, 1, "", 1)), api.Span{From: 1, To: 1}),
		known(leaf(en(0, 1, "a", 0)), api.Span{From: 1, To: 1}),
		known(leaf(en(0, 2, "", 0)), api.Span{From: 1, To: 2}),
		known(leaf(en(0, 2, "", 0)), api.Span{From: 2, To: 2}),
		known(leaf(en(0, 1, "", 0), en(0, 2, "", 0)), api.Span{From: 1, To: 2}),
		known(leaf(en(0, 2, "", 0), en(0, 6, "", 0)), api.Span{From: 2, To: 2}, api.Span{From: 4, To: 6}),
		known(leaf(en(3, most, longest, inc)), api.Span{DC: 3, From: most, To: most}),
		known(leaf(en(3, most, longest, -inc)), api.Span{DC: 3, From: most, To: most}),
		known(below(leaf(en(0, 1, "", 0)), "a"), api.Span{From: 1, To: 1}),
		known(below(leaf(en(0, 1, "", 0)), "b"), api.Span{From: 1, To: 1}),
		known(below(leaf(en(0, 1, "", 0)), "a", "b", "c", longest), api.Span{From: 1, To: 1}),
		known(api.Tree{Entries: []api.Entry{en(0, 1, "", 0)}, Kids: below(leaf(en(0, 1, "", 0)), "a").Kids}, api.Span{From: 1, To: 1}),
		some(),
		{T: some().T, C: all()},
		known(below(some().T, "a", "b"), some().C...),
	}
}

// wrongs answers what may not be known, each for one cause.
func wrongs() map[string]api.Causal {
	one := leaf(en(0, 1, "", 0))
	m := map[string]api.Causal{
		"no context":                     known(one),
		"the context hasn't the dot":     known(one, api.Span{From: 2, To: 9}),
		"the context is another's":       known(one, api.Span{DC: 1, From: 1, To: 1}),
		"the second dot isn't there":     known(leaf(en(0, 1, "", 0), en(0, 2, "", 0)), api.Span{From: 1, To: 1}),
		"the first dot isn't there":      known(leaf(en(0, 1, "", 0), en(0, 2, "", 0)), api.Span{From: 2, To: 2}),
		"a dot is in a gap":              known(leaf(en(0, 1, "", 0), en(0, 2, "", 0), en(0, 3, "", 0)), api.Span{From: 1, To: 1}, api.Span{From: 3, To: 3}),
		"a dot is behind all spans":      known(leaf(en(0, 4, "", 0)), api.Span{From: 1, To: 3}, api.Span{DC: 1, From: 1, To: 9}),
		"a kid's dot isn't there":        known(api.Tree{Entries: one.Entries, Kids: below(leaf(en(0, 2, "", 0)), "a").Kids}, api.Span{From: 1, To: 1}),
		"the deepest dot isn't there":    known(below(leaf(en(3, 2, "", 0)), "a", "b", "c", "d"), api.Span{DC: 3, From: 1, To: 1}, api.Span{DC: 3, From: 3, To: 3}),
		"the last kid's dot isn't there": known(some().T, some().C[:4]...),
		"the spans fall":                 known(one, api.Span{DC: 1, From: 1, To: 1}, api.Span{From: 1, To: 1}),
		"two spans that are one":         known(one, api.Span{From: 1, To: 1}, api.Span{From: 2, To: 2}),
		"two spans overlap":              known(one, api.Span{From: 1, To: 3}, api.Span{From: 3, To: 5}),
		"one span twice":                 known(one, api.Span{From: 1, To: 1}, api.Span{From: 1, To: 1}),
		"a span of none":                 known(api.Tree{}, api.Span{From: 2, To: 1}),
		"the zero span":                  known(api.Tree{}, api.Span{}),
		"a span from below":              known(one, api.Span{From: math.MinInt64, To: 1}),
		"a span from 0":                  known(one, api.Span{From: 0, To: 1}),
		"a span up to above":             known(one, api.Span{From: 1, To: most + 1}),
		"a span up to far above":         known(api.Tree{}, api.Span{From: 1, To: math.MaxInt64}),
		"a span of no center":            known(one, api.Span{From: 1, To: 1}, api.Span{DC: api.MaxDC, From: 1, To: 1}),
		"a span of a center below":       known(one, api.Span{DC: -1, From: 1, To: 1}, api.Span{From: 1, To: 1}),
	}
	for what, t := range map[string]api.Tree{
		"the zero entry":       leaf(api.Entry{}),
		"a dot above MaxDot":   leaf(en(0, most+1, "", 0)),
		"no center":            leaf(en(api.MaxDC, 1, "", 0)),
		"a center below 0":     leaf(en(-1, 1, "", 0)),
		"one dot twice":        leaf(en(0, 2, "", 0), en(0, 2, "", 0)),
		"the dots fall":        leaf(en(1, 1, "", 0), en(0, 2, "", 0)),
		"a text too long":      leaf(en(0, 1, tooLong, 0)),
		"a number above":       leaf(en(0, 1, "", inc+1)),
		"a number below":       leaf(en(0, 1, "", -inc-1)),
		"no key":               below(one, ""),
		"a key too long":       below(one, tooLong),
		"one key twice":        {Kids: []api.Kid{{Key: "a", T: one}, {Key: "a", T: one}}},
		"the keys fall":        {Kids: []api.Kid{{Key: "b", T: one}, {Key: "a", T: one}}},
		"an empty kid":         below(api.Tree{}, "a"),
		"an empty kid of kids": {Entries: one.Entries, Kids: below(api.Tree{}, "a", "b").Kids},
		"six levels":           below(one, "a", "b", "c", "d", "e"),
		"far too deep":         below(one, strings.Split(strings.Repeat("k", 1<<16), "")...),
	} {
		m["a tree of: "+what] = api.Causal{T: t, C: all()}
	}
	// A tree of itself has no end.
	round := []api.Kid{{Key: "a", T: one}}
	round[0].T.Kids = round
	m["its own kid"] = api.Causal{T: api.Tree{Kids: round}, C: all()}
	return m
}

// nothing tells whether c is zero.
func nothing(c api.Causal) bool {
	return len(c.T.Entries) == 0 && len(c.T.Kids) == 0 && len(c.C) == 0
}

// like tells whether two have the same tree and context, without package causal.
func like(a, b api.Causal) bool {
	return tree.Same(a.T, b.T) && slices.Equal(a.C, b.C)
}

func TestRight(t *testing.T) {
	for i, c := range rights() {
		if !causal.Right(c) {
			t.Errorf("%d: %v isn't right", i, c)
		}
	}
	for what, c := range wrongs() {
		if causal.Right(c) {
			t.Errorf("%s: is right", what)
		}
	}
}

// joins asks Join, both ways round, and JoinAll for one answer.
func joins(t *testing.T, a, b, want api.Causal) {
	t.Helper()
	for _, l := range [][]api.Causal{{a, b}, {b, a}} {
		got, e := causal.Join(l[0], l[1])
		if e != api.OK || !like(got, want) {
			t.Errorf("Join(%v, %v): %v %v, want %v", l[0], l[1], got, e, want)
		}
		got, e = causal.JoinAll(l...)
		if e != api.OK || !like(got, want) {
			t.Errorf("JoinAll(%v, %v): %v %v, want %v", l[0], l[1], got, e, want)
		}
	}
}

// What stays of one entry, at the root or below keys, by what the other one knows.
func TestJoinOfOneEntry(t *testing.T) {
	x := leaf(en(1, 4, "x", 2))
	here := api.Span{DC: 1, From: 4, To: 4}
	for _, path := range [][]string{nil, {"k"}, {"k", "l"}, {"k", "l", "m", "n"}} {
		w := below(x, path...)
		a := known(w, here)
		// The other one doesn't know the dot, whatever it knows beside it.
		joins(t, a, api.Causal{}, a)
		joins(t, a, known(api.Tree{}, api.Span{DC: 0, From: 1, To: 9}), known(w, api.Span{DC: 0, From: 1, To: 9}, here))
		joins(t, a, known(api.Tree{}, api.Span{DC: 1, From: 1, To: 3}), known(w, api.Span{DC: 1, From: 1, To: 4}))
		joins(t, a, known(api.Tree{}, api.Span{DC: 1, From: 5, To: 9}), known(w, api.Span{DC: 1, From: 4, To: 9}))
		joins(t, a, known(api.Tree{}, api.Span{DC: 1, From: 2, To: 2}, api.Span{DC: 1, From: 6, To: 6}, api.Span{DC: 2, From: 4, To: 4}),
			known(w, api.Span{DC: 1, From: 2, To: 2}, here, api.Span{DC: 1, From: 6, To: 6}, api.Span{DC: 2, From: 4, To: 4}))
		// The chapter's example: the other one knows the dot and hasn't the entry, so that it is gone, and its keys, too.
		joins(t, a, known(api.Tree{}, here), known(api.Tree{}, here))
		joins(t, a, known(api.Tree{}, api.Span{DC: 1, From: 1, To: 9}), known(api.Tree{}, api.Span{DC: 1, From: 1, To: 9}))
		joins(t, a, known(api.Tree{}, api.Span{DC: 1, From: 3, To: 4}), known(api.Tree{}, api.Span{DC: 1, From: 3, To: 4}))
		joins(t, a, known(api.Tree{}, api.Span{DC: 1, From: 4, To: 5}), known(api.Tree{}, api.Span{DC: 1, From: 4, To: 5}))
		joins(t, a, known(api.Tree{}, api.Span{DC: 1, From: 1, To: 1}, here, api.Span{DC: 1, From: 7, To: 7}), known(api.Tree{}, api.Span{DC: 1, From: 1, To: 1}, here, api.Span{DC: 1, From: 7, To: 7}))
		joins(t, a, api.Causal{C: all()}, api.Causal{C: all()})
		// Both have it.
		joins(t, a, a, a)
		joins(t, a, known(w, api.Span{DC: 0, From: 2, To: 2}, api.Span{DC: 1, From: 3, To: 8}), known(w, api.Span{DC: 0, From: 2, To: 2}, api.Span{DC: 1, From: 3, To: 8}))
		// Each knows the dot, and has it at a place of its own: both are gone.
		joins(t, a, known(below(x, append([]string{"a"}, path[min(1, len(path)):]...)...), here), known(api.Tree{}, here))
	}
}

// One dot at two places: what one of them has there alone is gone, though it has the dot elsewhere.
func TestJoinOfOneDotAtTwoPlaces(t *testing.T) {
	x := leaf(en(0, 1, "", 0))
	one := api.Span{From: 1, To: 1}
	both := known(api.Tree{Kids: []api.Kid{{Key: "k", T: x}, {Key: "l", T: x}}}, one)
	joins(t, both, known(below(x, "k"), one), known(below(x, "k"), one))
	joins(t, both, known(below(x, "l"), one), known(below(x, "l"), one))
	joins(t, both, known(x, one), known(api.Tree{}, one))
	joins(t, both, both, both)
	deep := known(api.Tree{Entries: x.Entries, Kids: below(x, "k", "k").Kids}, one)
	joins(t, deep, known(x, one), known(x, one))
	joins(t, deep, known(below(x, "k"), one), known(api.Tree{}, one))
	joins(t, deep, known(below(x, "k", "k"), one), known(below(x, "k", "k"), one))
}

// Of one dot that both have at one place: the greater N, then the greater S.
func TestJoinOfOneDotUnlike(t *testing.T) {
	// Each is less than the one behind it.
	l := []api.Entry{
		en(2, 3, "z", -inc), en(2, 3, longest, -7), en(2, 3, "", -1), en(2, 3, "\xff", -1),
		en(2, 3, "", 0), en(2, 3, "\x00", 0), en(2, 3, "B", 0), en(2, 3, "a", 0), en(2, 3, "a\x00", 0), en(2, 3, "ab", 0), en(2, 3, "b", 0), en(2, 3, "\x80", 0), en(2, 3, "é", 0), en(2, 3, "\xff", 0), en(2, 3, strings.Repeat("\xff", api.MaxText), 0),
		en(2, 3, "", 1), en(2, 3, "", 9), en(2, 3, "a", 10), en(2, 3, "", 1<<33), en(2, 3, "", inc), en(2, 3, "a", inc),
	}
	here := api.Span{DC: 2, From: 3, To: 3}
	for i, x := range l {
		for j, y := range l {
			want := l[max(i, j)]
			joins(t, known(leaf(x), here), known(leaf(y), here), known(leaf(want), here))
			joins(t, known(below(leaf(x), "k", "l"), here), known(below(leaf(y), "k", "l"), here), known(below(leaf(want), "k", "l"), here))
			less := known(leaf(x), here)
			if causal.Leq(less, known(leaf(y), here)) != (i <= j) {
				t.Errorf("Leq of %v and %v: %v", x, y, i > j)
			}
		}
	}
}

// Two trees of many places, each changed by itself since some() was known to both.
func TestJoinOfTrees(t *testing.T) {
	// The one took away the root's (2, 7), all below "a", and put (0, 7) below "b" and "d".
	a := some()
	a.T.Entries = a.T.Entries[:1]
	a.T.Kids = []api.Kid{a.T.Kids[1], a.T.Kids[2], {Key: "d", T: leaf(en(0, 7, "new", 1))}}
	a.T.Kids[0].T.Entries = []api.Entry{en(0, 7, "new", 2), en(3, 1, "", 5)}
	a.C = of(api.Span{DC: 0, From: 1, To: 2}, api.Span{DC: 0, From: 4, To: 7}, api.Span{DC: 1, From: 5, To: 5}, api.Span{DC: 2, From: 2, To: 9}, api.Span{DC: 3, From: 1, To: 1})
	// The other one took away all below "c", (0, 4) below "b", "c", and put (1, 6) below "a", and (1, 7) to the root.
	b := some()
	b.T.Entries = []api.Entry{en(0, 1, "", 0), en(1, 7, "r", 0), en(2, 7, "z", -3)}
	b.T.Kids = b.T.Kids[:2]
	b.T.Kids[0].T.Entries = append(b.T.Kids[0].T.Entries, en(1, 6, "w", 0))
	b.T.Kids[1].T.Kids = b.T.Kids[1].T.Kids[:1]
	b.C = of(api.Span{DC: 0, From: 1, To: 2}, api.Span{DC: 0, From: 4, To: 6}, api.Span{DC: 1, From: 5, To: 7}, api.Span{DC: 2, From: 2, To: 9}, api.Span{DC: 3, From: 1, To: 1})
	joins(t, a, b, known(api.Tree{
		Entries: []api.Entry{en(0, 1, "", 0), en(1, 7, "r", 0)},
		Kids: []api.Kid{
			{Key: "a", T: leaf(en(1, 6, "w", 0))},
			{Key: "b", T: api.Tree{
				Entries: []api.Entry{en(0, 7, "new", 2), en(3, 1, "", 5)},
				Kids:    []api.Kid{{Key: "a", T: leaf(en(0, 2, "q", 9))}},
			}},
			{Key: "d", T: leaf(en(0, 7, "new", 1))},
		},
	}, api.Span{DC: 0, From: 1, To: 2}, api.Span{DC: 0, From: 4, To: 7}, api.Span{DC: 1, From: 5, To: 7}, api.Span{DC: 2, From: 2, To: 9}, api.Span{DC: 3, From: 1, To: 1}))
	// Both are above what was known before.
	joins(t, some(), a, a)
	joins(t, some(), b, b)
}

// Keys of both, side by side, are in the order of their bytes.
func TestJoinOfKeys(t *testing.T) {
	keys := []string{"\x00", "B", "a", "a\x00", "ab", "b", longest, "\x80", "é", "\xff"}
	l := []api.Causal{{}, {}}
	var want api.Causal
	// Which of both has the i-th key.
	sides := []int{1, 0, 0, 1, 0, 1, 1, 1, 0, 1}
	for i, key := range keys {
		s := api.Span{DC: 1, From: int64(2*i + 1), To: int64(2*i + 1)}
		k := api.Kid{Key: key, T: leaf(en(1, s.From, key, 0))}
		side := &l[sides[i]]
		side.T.Kids, side.C = append(side.T.Kids, k), append(side.C, s)
		want.T.Kids, want.C = append(want.T.Kids, k), append(want.C, s)
	}
	joins(t, l[0], l[1], want)
	joins(t, l[0], want, want)
	joins(t, want, l[1], want)
}

func TestJoinAll(t *testing.T) {
	if got, e := causal.JoinAll(); e != api.OK || !nothing(got) {
		t.Errorf("JoinAll of none: %v %v", got, e)
	}
	for _, c := range rights() {
		for n := range 6 {
			got, e := causal.JoinAll(slices.Repeat([]api.Causal{c}, n)...)
			if n > 0 && !like(got, c) || n == 0 && !nothing(got) || e != api.OK {
				t.Errorf("JoinAll of %d times %v: %v %v", n, c, got, e)
			}
		}
	}
	// One behind the other, in any order.
	l := rights()
	var want api.Causal
	for n := range l {
		for i, part := range [][]api.Causal{l[:n], l[len(l)-n:]} {
			want = api.Causal{}
			for _, c := range part {
				want, _ = causal.Join(want, c)
			}
			back := slices.Clone(part)
			slices.Reverse(back)
			got, e := causal.JoinAll(part...)
			turned, f := causal.JoinAll(back...)
			if e != api.OK || f != api.OK || !like(got, want) || !like(turned, want) {
				t.Errorf("JoinAll of %d, %d: %v %v, %v %v, want %v", n, i, got, e, turned, f, want)
			}
		}
	}
}

func TestLeq(t *testing.T) {
	for i, a := range rights() {
		if !causal.Leq(a, a) || !causal.Leq(api.Causal{}, a) || causal.Leq(a, api.Causal{}) != (i == 0) {
			t.Errorf("Leq of %v and itself, and nothing", a)
		}
		for _, b := range rights() {
			both, _ := causal.Join(a, b)
			if causal.Leq(a, b) != like(both, b) || !causal.Leq(a, both) || !causal.Leq(b, both) {
				t.Errorf("Leq(%v, %v): %v", a, b, causal.Leq(a, b))
			}
		}
	}
	one := leaf(en(0, 1, "", 0))
	for _, c := range []struct {
		a, b api.Causal
		want bool
	}{
		// What is gone is above what is there, and that above what isn't known.
		{known(one, api.Span{From: 1, To: 1}), known(api.Tree{}, api.Span{From: 1, To: 1}), true},
		{known(api.Tree{}, api.Span{From: 1, To: 1}), known(one, api.Span{From: 1, To: 1}), false},
		{known(one, api.Span{From: 1, To: 1}), known(api.Tree{}, api.Span{From: 2, To: 2}), false},
		{known(api.Tree{}, api.Span{From: 2, To: 2}), known(one, api.Span{From: 1, To: 2}), true},
		{known(api.Tree{}, api.Span{From: 2, To: 3}), known(one, api.Span{From: 1, To: 2}), false},
		// One dot at another place is another thing.
		{known(one, api.Span{From: 1, To: 1}), known(below(one, "a"), api.Span{From: 1, To: 1}), false},
		{known(below(one, "a"), api.Span{From: 1, To: 1}), known(below(one, "b"), api.Span{From: 1, To: 1}), false},
		{known(api.Tree{Entries: one.Entries, Kids: below(one, "a").Kids}, api.Span{From: 1, To: 1}), known(one, api.Span{From: 1, To: 1}), true},
		{known(one, api.Span{From: 1, To: 1}), known(api.Tree{Entries: one.Entries, Kids: below(one, "a").Kids}, api.Span{From: 1, To: 1}), false},
	} {
		if causal.Leq(c.a, c.b) != c.want {
			t.Errorf("Leq(%v, %v): %v", c.a, c.b, !c.want)
		}
	}
}

func TestSame(t *testing.T) {
	for i, a := range rights() {
		for j, b := range rights() {
			if causal.Same(a, b) != (i == j) {
				t.Errorf("Same(%v, %v): %v", a, b, i != j)
			}
		}
	}
	empty := api.Causal{T: api.Tree{Entries: []api.Entry{}, Kids: []api.Kid{}}, C: api.Ctx{}}
	if !causal.Same(empty, api.Causal{}) || !causal.Same(api.Causal{}, empty) {
		t.Error("a list of none and nil aren't the same")
	}
}

func TestClone(t *testing.T) {
	for i, c := range rights() {
		if got := causal.Clone(c); !like(got, c) || !like(c, rights()[i]) {
			t.Errorf("Clone of %v: %v", c, got)
		}
	}
}

func TestOnly(t *testing.T) {
	s := some()
	for _, c := range []struct {
		keys []string
		want []api.Kid
	}{
		{nil, nil},
		{[]string{}, nil},
		{[]string{"a"}, s.T.Kids[:1]},
		{[]string{"b"}, s.T.Kids[1:2]},
		{[]string{"c", "b"}, s.T.Kids[1:]},
		{[]string{"c", "a", "b"}, s.T.Kids},
		{[]string{"b", "b", "z", "b"}, s.T.Kids[1:2]},
		{[]string{"d", "B", "bb"}, nil},
		// Keys that may not be aren't there.
		{[]string{"", tooLong, strings.Repeat("k", 1<<16)}, nil},
		{[]string{"", "a", tooLong}, s.T.Kids[:1]},
		{append(slices.Repeat([]string{"z", ""}, 1<<15), "b", "a"), s.T.Kids[:2]},
	} {
		got, e := causal.Only(some(), c.keys...)
		if e != api.OK || !like(got, api.Causal{T: api.Tree{Kids: c.want}, C: s.C}) {
			t.Errorf("Only %q: %v %v", c.keys[:min(9, len(c.keys))], got, e)
		}
		for _, x := range rights()[:5] {
			if got, e := causal.Only(x, c.keys...); e != api.OK || !like(got, x) {
				t.Errorf("Only %q of %v: %v %v", c.keys[:min(9, len(c.keys))], x, got, e)
			}
		}
	}
	// A root's own entries don't stay.
	if got, e := causal.Only(known(leaf(en(0, 1, "", 0)), api.Span{From: 1, To: 1}), "a"); e != api.OK || !like(got, known(api.Tree{}, api.Span{From: 1, To: 1})) {
		t.Error(got, e)
	}
}

func TestOfWrongs(t *testing.T) {
	for what, x := range wrongs() {
		for i, c := range rights() {
			for _, l := range [][]api.Causal{{x, c}, {c, x}, {x, x}} {
				if got, e := causal.Join(l[0], l[1]); e != api.ErrArg || !nothing(got) {
					t.Errorf("%s: Join with %d: %v %v", what, i, got, e)
				}
				if causal.Leq(l[0], l[1]) || causal.Same(l[0], l[1]) {
					t.Errorf("%s: Leq or Same with %d", what, i)
				}
			}
			for at := range 4 {
				l := slices.Insert([]api.Causal{c, {}, c}, at, x)
				if got, e := causal.JoinAll(l...); e != api.ErrArg || !nothing(got) {
					t.Errorf("%s: JoinAll with %d: %v %v", what, i, got, e)
				}
			}
		}
		if got, e := causal.JoinAll(x); e != api.ErrArg || !nothing(got) {
			t.Errorf("%s: JoinAll of it: %v %v", what, got, e)
		}
		if got := causal.Clone(x); !nothing(got) {
			t.Errorf("%s: Clone %v", what, got)
		}
		for _, keys := range [][]string{nil, {"a"}, {"a", "b", "k"}, {""}} {
			if got, e := causal.Only(x, keys...); e != api.ErrArg || !nothing(got) {
				t.Errorf("%s: Only %q: %v %v", what, keys, got, e)
			}
		}
	}
}

// A place is the keys on the way to an entry, and its dot.
type place struct {
	way string
	dot api.Dot
}

// A flat is what is known as the chapter words it: the entries by their places, and the dots.
type flat struct {
	at   map[place]api.Entry
	dots map[api.Dot]bool
}

// flatten makes it of c, whose spans are short.
func flatten(c api.Causal) flat {
	f := flat{map[place]api.Entry{}, map[api.Dot]bool{}}
	f.walk("", c.T)
	for _, s := range c.C {
		for n := s.From; n <= s.To; n++ {
			f.dots[api.Dot{DC: s.DC, N: n}] = true
		}
	}
	return f
}

// walk adds the entries of t, which stands at that way.
func (f flat) walk(way string, t api.Tree) {
	for _, e := range t.Entries {
		f.at[place{way, e.Dot}] = e
	}
	for _, k := range t.Kids {
		f.walk(way+"/"+k.Key, k.T)
	}
}

// joined answers both joined, by the chapter's words.
func (f flat) joined(g flat) flat {
	j := flat{map[place]api.Entry{}, map[api.Dot]bool{}}
	for p, e := range f.at {
		o, both := g.at[p]
		switch {
		case both && (o.N > e.N || o.N == e.N && o.S > e.S):
			j.at[p] = o
		case both || !g.dots[p.dot]:
			j.at[p] = e
		}
	}
	for p, e := range g.at {
		if _, both := f.at[p]; !both && !f.dots[p.dot] {
			j.at[p] = e
		}
	}
	for _, dots := range []map[api.Dot]bool{f.dots, g.dots} {
		for d := range dots {
			j.dots[d] = true
		}
	}
	return j
}

// like tells whether two are the same.
func (f flat) like(g flat) bool {
	for p, e := range f.at {
		if o, ok := g.at[p]; !ok || o != e {
			return false
		}
	}
	for d := range f.dots {
		if !g.dots[d] {
			return false
		}
	}
	return len(f.at) == len(g.at) && len(f.dots) == len(g.dots)
}

// states answers all that may be known of these dots: each isn't known, or is, and has at the root and below "k", "l" nothing, or one of the values.
func states(dots []api.Dot, values []api.Entry) []api.Causal {
	l := []api.Causal{{}}
	for _, d := range dots {
		var more []api.Causal
		for _, c := range l {
			more = append(more, c)
			ctx := context.Union(c.C, of(api.Span{DC: d.DC, From: d.N, To: d.N}))
			low := tree.Get(c.T, "k", "l")
			for root := range len(values) + 1 {
				for kid := range len(values) + 1 {
					x := api.Tree{Entries: with(c.T.Entries, d, values[:root])}
					if y := leaf(with(low.Entries, d, values[:kid])...); len(y.Entries) > 0 {
						x.Kids = below(y, "k", "l").Kids
					}
					more = append(more, api.Causal{T: x, C: ctx})
				}
			}
		}
		l = more
	}
	return l
}

// with answers l, and behind it the last one of these values, named d.
func with(l []api.Entry, d api.Dot, values []api.Entry) []api.Entry {
	if len(values) == 0 {
		return l
	}
	v := values[len(values)-1]
	return append(slices.Clone(l), en(d.DC, d.N, v.S, v.N))
}

// families answers states by three dots of one value, by two of two, and by one of five.
func families() [][]api.Causal {
	value := func(s string, n int64) api.Entry { return api.Entry{S: s, N: n} }
	return [][]api.Causal{
		states([]api.Dot{{DC: 0, N: 2}, {DC: 0, N: 3}, {DC: 2, N: 3}}, []api.Entry{value("", 0)}),
		states([]api.Dot{{DC: 1, N: 1}, {DC: 1, N: 3}}, []api.Entry{value("b", 1), value("a", 1)}),
		states([]api.Dot{{DC: 3, N: most}}, []api.Entry{value("", 0), value("z", -1), value("a", 2), value("b", 2), value("\xff", 1)}),
	}
}

// All pairs of many small ones, held against the chapter's words.
func TestAgainstPlaces(t *testing.T) {
	for _, l := range families() {
		flats := make([]flat, len(l))
		for i, c := range l {
			flats[i] = flatten(c)
			if !causal.Right(c) || !flatten(causal.Clone(c)).like(flats[i]) {
				t.Fatalf("%v: Right %v, Clone %v", c, causal.Right(c), causal.Clone(c))
			}
		}
		for i, a := range l {
			for j, b := range l {
				got, e := causal.Join(a, b)
				want := flats[i].joined(flats[j])
				if e != api.OK || !causal.Right(got) || !flatten(got).like(want) {
					t.Fatalf("Join(%v, %v): %v %v, want %v", a, b, got, e, want)
				}
				if causal.Same(a, b) != (i == j) || causal.Leq(a, b) != want.like(flats[j]) {
					t.Fatalf("of %v and %v: Same %v, Leq %v", a, b, causal.Same(a, b), causal.Leq(a, b))
				}
			}
		}
	}
}

// What follows: joining is idempotent, commutative and associative, and what is joined is the least that is above both.
func TestWhatFollows(t *testing.T) {
	for _, l := range families() {
		// Of a family each joined pair is one of it again, so that triples are gone through by their numbers.
		number := map[string]int{}
		for i, c := range l {
			number[text(c)] = i
		}
		join := make([][]int, len(l))
		for i, a := range l {
			join[i] = make([]int, len(l))
			for j, b := range l {
				both, e := causal.Join(a, b)
				n, ok := number[text(both)]
				if e != api.OK || !ok {
					t.Fatalf("Join(%v, %v): %v %v", a, b, both, e)
				}
				join[i][j] = n
			}
		}
		for i := range l {
			if join[i][i] != i || join[i][0] != i || join[0][i] != i {
				t.Fatalf("of %v and itself, or nothing", l[i])
			}
			for j := range l {
				both := join[i][j]
				if both != join[j][i] || join[i][both] != both || join[j][both] != both {
					t.Fatalf("of %v and %v: %v, and %v", l[i], l[j], l[both], l[join[j][i]])
				}
				for k := range l {
					if join[both][k] != join[i][join[j][k]] {
						t.Fatalf("of %v, %v and %v: not associative", l[i], l[j], l[k])
					}
					if join[i][k] == k && join[j][k] == k && join[both][k] != k {
						t.Fatalf("of %v and %v: %v isn't the least, as %v is above both", l[i], l[j], l[both], l[k])
					}
				}
			}
		}
		// JoinAll is one behind the other, of three and four.
		for i := range l {
			for _, step := range []int{1, 7, 31} {
				j, k, n := (i+step)%len(l), (i+2*step)%len(l), (i*step)%len(l)
				three, e := causal.JoinAll(l[i], l[j], l[k])
				four, f := causal.JoinAll(l[i], l[j], l[k], l[n])
				if e != api.OK || f != api.OK || number[text(three)] != join[join[i][j]][k] || number[text(four)] != join[join[join[i][j]][k]][n] {
					t.Fatalf("JoinAll of %v, %v, %v, %v: %v %v, %v %v", l[i], l[j], l[k], l[n], three, e, four, f)
				}
			}
		}
	}
}

// text answers all of c as a text, unlike that of all others.
func text(c api.Causal) string {
	var b strings.Builder
	var walk func(t api.Tree)
	walk = func(t api.Tree) {
		for _, e := range t.Entries {
			b.WriteString(strconv.Itoa(e.Dot.DC) + "." + strconv.FormatInt(e.Dot.N, 10) + "=" + strconv.Quote(e.S) + strconv.FormatInt(e.N, 10) + " ")
		}
		for _, k := range t.Kids {
			b.WriteString(strconv.Quote(k.Key) + "(")
			walk(k.T)
			b.WriteString(")")
		}
	}
	walk(c.T)
	for _, s := range c.C {
		b.WriteString("[" + strconv.Itoa(s.DC) + ":" + strconv.FormatInt(s.From, 10) + "-" + strconv.FormatInt(s.To, 10) + "]")
	}
	return b.String()
}

// Of many keys, spans and entries, and of many that are joined.
func TestOfMany(t *testing.T) {
	const n = 1 << 15
	var a, b, want api.Causal
	for i := range int64(n) {
		k := api.Kid{Key: string([]byte{1 + byte(i>>8), byte(i)}), T: leaf(en(1, 2*i+1, "", i))}
		s := api.Span{DC: 1, From: 2*i + 1, To: 2*i + 1}
		a.T.Kids, a.C = append(a.T.Kids, k), append(a.C, s)
		// The other one knows each third of them, and took it away.
		if i%3 == 0 {
			b.C = append(b.C, s)
		} else {
			want.T.Kids = append(want.T.Kids, k)
		}
	}
	want.C = a.C
	joins(t, a, b, want)
	if causal.Leq(a, b) || causal.Leq(b, a) || !causal.Leq(a, want) || !causal.Leq(b, want) || causal.Leq(want, a) {
		t.Error("leq")
	}
	var l []api.Causal
	whole := known(api.Tree{}, api.Span{DC: 2, From: 1, To: n})
	for i := range int64(n) {
		whole.T.Entries = append(whole.T.Entries, en(2, i+1, "x", i))
		d := i * 12345 % n
		l = append(l, known(leaf(en(2, d+1, "x", d)), api.Span{DC: 2, From: d + 1, To: d + 1}))
	}
	if got, e := causal.JoinAll(l...); e != api.OK || !like(got, whole) {
		t.Error("JoinAll of many", len(got.T.Entries), len(got.C), e)
	}
}

// roomy answers t with spare room, in which something stands, behind each of its lists.
func roomy(t api.Tree) api.Tree {
	var y api.Tree
	y.Entries = append(append(make([]api.Entry, 0, len(t.Entries)+2), t.Entries...), en(9, 9, "spare", 9), en(9, 8, "spare", 9))[:len(t.Entries)]
	for _, k := range t.Kids {
		y.Kids = append(y.Kids, api.Kid{Key: k.Key, T: roomy(k.T)})
	}
	n := len(y.Kids)
	y.Kids = append(append(make([]api.Kid, 0, n+2), y.Kids...), api.Kid{Key: "spare"}, api.Kid{Key: "spare"})[:n]
	return y
}

// room answers c with spare room behind each of its lists.
func room(c api.Causal) api.Causal {
	n := len(c.C)
	return api.Causal{T: roomy(c.T), C: append(append(make(api.Ctx, 0, n+2), c.C...), api.Span{DC: 9, From: 9}, api.Span{DC: 9, From: 8})[:n]}
}

// intact tells whether y is t as roomy made it.
func intact(t, y api.Tree) bool {
	n, m := len(t.Entries), len(t.Kids)
	if !slices.Equal(y.Entries, t.Entries) || !slices.Equal(y.Entries[n:n+2], []api.Entry{en(9, 9, "spare", 9), en(9, 8, "spare", 9)}) || len(y.Kids) != m {
		return false
	}
	for _, k := range y.Kids[m : m+2] {
		if k.Key != "spare" || !tree.Empty(k.T) {
			return false
		}
	}
	return slices.EqualFunc(t.Kids, y.Kids, func(a, b api.Kid) bool { return a.Key == b.Key && intact(a.T, b.T) })
}

// whole tells whether y is c as room made it.
func whole(c, y api.Causal) bool {
	n := len(c.C)
	return intact(c.T, y.T) && slices.Equal(y.C, c.C) && slices.Equal(y.C[n:n+2], of(api.Span{DC: 9, From: 9}, api.Span{DC: 9, From: 8}))
}

// spoil overwrites all of t, its spare room too.
func spoil(t api.Tree) {
	for _, k := range t.Kids {
		spoil(k.T)
	}
	for i := range t.Entries[:cap(t.Entries)] {
		t.Entries[:cap(t.Entries)][i] = en(-1, -1, "spoilt", -1)
	}
	for i := range t.Kids[:cap(t.Kids)] {
		t.Kids[:cap(t.Kids)][i] = api.Kid{Key: "spoilt"}
	}
}

// What is handed in stays as it is, its spare room too, and what is answered is new memory.
func TestAnswersStandAlone(t *testing.T) {
	// The other one knows more of some keys, and has taken away what is below others.
	more := known(api.Tree{
		Entries: []api.Entry{en(3, 4, "w", 0)},
		Kids:    []api.Kid{{Key: "a", T: leaf(en(3, 5, "v", 0))}, {Key: "b", T: below(leaf(en(0, 2, "q", 8)), "a")}, {Key: "d", T: leaf(en(3, 6, "", 0))}},
	}, api.Span{DC: 0, From: 2, To: 2}, api.Span{DC: 1, From: 5, To: 5}, api.Span{DC: 3, From: 4, To: 6})
	a, b, none := room(some()), room(more), room(api.Causal{})
	list := []api.Causal{a, b, a, none, b}
	keys := []string{"c", "b", "z", "a", "spare", "b"}
	was := slices.Clone(keys)
	first := func(c api.Causal, _ api.Errno) api.Causal { return c }
	calls := map[string]func() api.Causal{
		"Join":              func() api.Causal { return first(causal.Join(a, b)) },
		"Join, turned":      func() api.Causal { return first(causal.Join(b, a)) },
		"Join of itself":    func() api.Causal { return first(causal.Join(a, a)) },
		"Join with nothing": func() api.Causal { return first(causal.Join(a, none)) },
		"Join from nothing": func() api.Causal { return first(causal.Join(none, a)) },
		"JoinAll of one":    func() api.Causal { return first(causal.JoinAll(list[:1]...)) },
		"JoinAll of two":    func() api.Causal { return first(causal.JoinAll(list[:2]...)) },
		"JoinAll of three":  func() api.Causal { return first(causal.JoinAll(list[:3]...)) },
		"JoinAll of five":   func() api.Causal { return first(causal.JoinAll(list...)) },
		"Clone":             func() api.Causal { return causal.Clone(a) },
		"Only of none":      func() api.Causal { return first(causal.Only(a)) },
		"Only":              func() api.Causal { return first(causal.Only(a, keys[1:2]...)) },
		"Only of all":       func() api.Causal { return first(causal.Only(a, keys...)) },
	}
	for what, call := range calls {
		got := call()
		want := room(got)
		spoil(got.T)
		clear(got.C[:cap(got.C)])
		if again := call(); !like(again, want) || nothing(again) {
			t.Errorf("%s, again: %v, want %v", what, again, want)
		}
	}
	causal.Right(a)
	causal.Leq(a, b)
	causal.Same(a, b)
	for i, c := range list {
		want := []api.Causal{some(), more, some(), {}, more}[i]
		if !whole(want, c) {
			t.Errorf("%d: what was handed in, or its spare room, is changed: %v", i, c)
		}
	}
	if !slices.Equal(keys, was) {
		t.Errorf("the keys are changed: %q", keys)
	}
}

// No two lists of one answer share memory, though those that come in do.
func TestListsOfOneAnswerShareNone(t *testing.T) {
	low := roomy(some().T)
	x := api.Causal{T: api.Tree{Kids: []api.Kid{{Key: "a", T: low}, {Key: "b", T: low}}}, C: some().C}
	joined, _ := causal.Join(x, x)
	single, _ := causal.JoinAll(x)
	double, _ := causal.JoinAll(x, x)
	only, _ := causal.Only(x, "a", "b")
	for i, y := range []api.Causal{joined, single, double, only, causal.Clone(x)} {
		if !like(y, x) {
			t.Fatal(i, y)
		}
		spoil(y.T.Kids[0].T)
		if !tree.Same(y.T.Kids[1].T, some().T) {
			t.Errorf("%d: the second kid is changed: %v", i, y.T.Kids[1].T)
		}
	}
}
