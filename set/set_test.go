package set_test

import (
	"math"
	"slices"
	"strings"
	"testing"

	"tributary/api"
	"tributary/causal"
	"tributary/context"
	"tributary/set"
	"tributary/tree"
)

const (
	most = int64(api.MaxDot)
	inc  = int64(api.MaxInc)
)

// longest and tooLong are texts of MaxText bytes, and of one more.
var (
	longest = strings.Repeat("x", api.MaxText)
	tooLong = longest + "x"
)

// changes are the calls that answer deltas, and whether a text is in the set behind them.
var changes = []struct {
	name string
	call func(api.Tree, string, api.Dot) (api.Causal, api.Errno)
	in   bool
}{{"Add", set.Add, true}, {"Del", set.Del, false}}

// at makes a dot.
func at(dc int, n int64) api.Dot { return api.Dot{DC: dc, N: n} }

// sp makes a span.
func sp(dc int, from, to int64) api.Span { return api.Span{DC: dc, From: from, To: to} }

// leaf makes a tree of entries of these dots alone.
func leaf(l ...api.Dot) api.Tree {
	var t api.Tree
	for _, d := range l {
		t.Entries = append(t.Entries, api.Entry{Dot: d})
	}
	return t
}

// below makes a tree of that path alone, at whose end is t.
func below(t api.Tree, path ...string) api.Tree {
	for i := len(path) - 1; i >= 0; i-- {
		t = api.Tree{Kids: []api.Kid{{Key: path[i], T: t}}}
	}
	return t
}

// both makes a tree of the entries of a, and the kids of b.
func both(a, b api.Tree) api.Tree { return api.Tree{Entries: a.Entries, Kids: b.Kids} }

// some is a tree of entries on each of three levels: of its kids "b" has entries and kids, and "c" has kids alone. It hasn't {0, 3}.
func some() api.Tree {
	return api.Tree{
		Entries: []api.Entry{{Dot: at(0, 1)}, {Dot: at(2, 7), S: "z", N: -3}},
		Kids: []api.Kid{
			{Key: "a", T: leaf(at(0, 2), at(0, 4))},
			{Key: "ab", T: leaf(at(3, 2))},
			{Key: "b", T: both(leaf(at(3, 1)), api.Tree{Kids: []api.Kid{{Key: "a", T: leaf(at(0, 6))}, {Key: "c", T: leaf(at(0, 5))}}})},
			{Key: "c", T: below(leaf(at(1, 5)), "c")},
		},
	}
}

// many makes a tree of n kids, k00 and on, each of one entry by center 0.
func many(n int) api.Tree {
	var t api.Tree
	for i := range n {
		t.Kids = append(t.Kids, api.Kid{Key: "k" + string([]byte{'0' + byte(i/10), '0' + byte(i%10)}), T: leaf(at(0, int64(i+1)))})
	}
	return t
}

// wrongDots answers dots that aren't right.
func wrongDots() []api.Dot {
	return []api.Dot{
		{}, at(0, 0), at(3, 0), at(0, -1), at(1, math.MinInt64), at(0, most+1), at(3, math.MaxInt64),
		at(-1, 1), at(api.MaxDC, 1), at(math.MinInt, 1), at(math.MaxInt, most),
	}
}

// wrongTexts answers texts that may not be in a set.
func wrongTexts() []string {
	return []string{"", tooLong, tooLong + "x", strings.Repeat("ü", 16), strings.Repeat("\x00", 31), strings.Repeat("a", 1<<20)}
}

// wrongTrees answers trees that aren't right, each for one cause, with a kid "a" beside it where that may be. None of them has {2, 9}.
func wrongTrees() map[string]api.Tree {
	a := below(leaf(at(0, 1)), "a")
	m := map[string]api.Tree{
		"the zero entry":          both(leaf(api.Dot{}), a),
		"a dot above MaxDot":      both(leaf(at(0, most+1)), a),
		"no center":               both(leaf(at(api.MaxDC, 1)), a),
		"one dot twice":           both(leaf(at(0, 2), at(0, 2)), a),
		"the dots fall":           both(leaf(at(1, 1), at(0, 2)), a),
		"a text too long":         {Entries: []api.Entry{{Dot: at(0, 1), S: tooLong}}, Kids: a.Kids},
		"a number above MaxInc":   {Entries: []api.Entry{{Dot: at(0, 1), N: inc + 1}}, Kids: a.Kids},
		"no key":                  {Kids: []api.Kid{{Key: "", T: leaf(at(0, 2))}, a.Kids[0]}},
		"a key too long":          {Kids: []api.Kid{a.Kids[0], {Key: tooLong, T: leaf(at(0, 2))}}},
		"one key twice":           {Kids: []api.Kid{a.Kids[0], a.Kids[0]}},
		"the keys fall":           {Kids: []api.Kid{{Key: "b", T: leaf(at(0, 2))}, a.Kids[0]}},
		"an empty kid":            {Kids: []api.Kid{a.Kids[0], {Key: "b"}}},
		"an empty kid alone":      below(api.Tree{}, "a"),
		"an empty kid of kids":    below(api.Tree{}, "a", "b"),
		"a wrong kid":             below(leaf(at(0, 0)), "a"),
		"a wrong kid, the second": {Kids: []api.Kid{a.Kids[0], {Key: "b", T: leaf(at(0, 0))}}},
		"six levels":              below(both(leaf(at(0, 1)), below(leaf(at(0, 1)), "b", "c", "d", "e")), "a"),
		"far too deep":            below(leaf(at(0, 1)), strings.Split(strings.Repeat("k", 1<<16), "")...),
	}
	// A tree of itself has no end.
	round := []api.Kid{{Key: "a", T: leaf(at(0, 1))}}
	round[0].T.Kids = round
	m["its own kid"] = api.Tree{Kids: round}
	return m
}

// rights answers trees, with a text and a dot that may name a change of it, and the context of that change's delta.
func rights() []struct {
	t    api.Tree
	s    string
	d    api.Dot
	want api.Ctx
} {
	return []struct {
		t    api.Tree
		s    string
		d    api.Dot
		want api.Ctx
	}{
		// Nothing is there, and the least and the greatest dots and texts.
		{api.Tree{}, "a", at(0, 1), api.Ctx{sp(0, 1, 1)}},
		{api.Tree{Entries: []api.Entry{}, Kids: []api.Kid{}}, longest, at(3, most), api.Ctx{sp(3, most, most)}},
		// A text is any bytes.
		{api.Tree{}, "\x00", at(1, 4), api.Ctx{sp(1, 4, 4)}},
		{api.Tree{}, "\xff\xfe", at(1, 4), api.Ctx{sp(1, 4, 4)}},
		{api.Tree{}, strings.Repeat("ü", 15), at(2, 2), api.Ctx{sp(2, 2, 2)}},
		// What others than that kid have doesn't matter.
		{leaf(at(0, 1), at(1, 1)), "a", at(0, 2), api.Ctx{sp(0, 2, 2)}},
		{below(leaf(at(0, 1)), "a"), "b", at(0, 2), api.Ctx{sp(0, 2, 2)}},
		{below(leaf(at(0, 1)), "b"), "a", at(0, 2), api.Ctx{sp(0, 2, 2)}},
		{below(leaf(at(0, 1)), "ab"), "a", at(0, 2), api.Ctx{sp(0, 2, 2)}},
		{below(leaf(at(0, 1)), "a"), "ab", at(0, 2), api.Ctx{sp(0, 2, 2)}},
		{below(leaf(at(0, 1)), "a"), "A", at(0, 2), api.Ctx{sp(0, 2, 2)}},
		{below(leaf(at(0, 1)), "a"), "a\x00", at(0, 2), api.Ctx{sp(0, 2, 2)}},
		{below(leaf(at(0, 1)), "b", "a"), "a", at(0, 2), api.Ctx{sp(0, 2, 2)}},
		{some(), "d", at(0, 3), api.Ctx{sp(0, 3, 3)}},
		{many(23), "a", at(0, 24), api.Ctx{sp(0, 24, 24)}},
		// All dots of that kid: of its own entries, and of those below it.
		{below(leaf(at(0, 1)), "a"), "a", at(0, 2), api.Ctx{sp(0, 1, 2)}},
		{below(leaf(at(0, 1)), longest), longest, at(1, 1), api.Ctx{sp(0, 1, 1), sp(1, 1, 1)}},
		{below(leaf(at(0, 1), at(0, 3), at(3, most)), "a"), "a", at(0, 2), api.Ctx{sp(0, 1, 3), sp(3, most, most)}},
		{below(leaf(at(0, 1)), "a", "b", "c", "d"), "a", at(0, 3), api.Ctx{sp(0, 1, 1), sp(0, 3, 3)}},
		{some(), "a", at(0, 3), api.Ctx{sp(0, 2, 4)}},
		{some(), "ab", at(3, 3), api.Ctx{sp(3, 2, 3)}},
		{some(), "b", at(0, 3), api.Ctx{sp(0, 3, 3), sp(0, 5, 6), sp(3, 1, 1)}},
		{some(), "c", at(1, 4), api.Ctx{sp(1, 4, 5)}},
		{many(24), "k09", at(0, 25), api.Ctx{sp(0, 10, 10), sp(0, 25, 25)}},
		{many(24), "k23", at(0, 25), api.Ctx{sp(0, 24, 25)}},
		// Texts and numbers of the entries don't matter.
		{below(api.Tree{Entries: []api.Entry{{Dot: at(0, 1), S: longest, N: inc}, {Dot: at(0, 2), N: -inc}}}, "a"), "a", at(0, 3), api.Ctx{sp(0, 1, 3)}},
	}
}

// nothing tells whether c is zero.
func nothing(c api.Causal) bool { return tree.Empty(c.T) && len(c.C) == 0 }

// refused asks whether both changes answer ErrArg, and nothing else.
func refused(t *testing.T, what string, x api.Tree, s string, d api.Dot) {
	t.Helper()
	for _, c := range changes {
		if got, e := c.call(x, s, d); e != api.ErrArg || !nothing(got) {
			t.Errorf("%s: %s of %q by %v: %v %v", what, c.name, s, d, got, e)
		}
	}
}

func TestDeltas(t *testing.T) {
	for i, c := range rights() {
		got, e := set.Add(c.t, c.s, c.d)
		if want := (api.Causal{T: below(leaf(c.d), c.s), C: c.want}); e != api.OK || !causal.Same(got, want) {
			t.Errorf("%d: Add: %v %v, want %v", i, got, e, want)
		}
		got, e = set.Del(c.t, c.s, c.d)
		if e != api.OK || !tree.Empty(got.T) || !slices.Equal(got.C, c.want) || !causal.Right(got) {
			t.Errorf("%d: Del: %v %v, want %v", i, got, e, c.want)
		}
	}
}

func TestOfWrongTexts(t *testing.T) {
	for _, s := range wrongTexts() {
		for _, c := range rights() {
			refused(t, "a wrong text", c.t, s, c.d)
			if set.Has(c.t, s) {
				t.Errorf("Has(%v, %q)", c.t, s)
			}
		}
	}
}

func TestOfWrongDots(t *testing.T) {
	for _, d := range wrongDots() {
		for _, c := range rights() {
			refused(t, "a wrong dot", c.t, c.s, d)
		}
	}
}

func TestOfWrongTrees(t *testing.T) {
	for what, x := range wrongTrees() {
		for _, s := range []string{"a", "b", "zz", longest, "", tooLong} {
			refused(t, what, x, s, at(2, 9))
			if set.Has(x, s) {
				t.Errorf("%s: has %q", what, s)
			}
		}
		if l := set.Elems(x); len(l) > 0 {
			t.Errorf("%s: Elems: %q", what, l)
		}
	}
}

// A dot that the tree has names no change of it, at its root or below whatever key.
func TestOfDotsThatTheTreeHas(t *testing.T) {
	for _, c := range rights() {
		own, e := tree.Dots(c.t)
		if e != api.OK {
			t.Fatal(c.t, e)
		}
		for _, s := range own {
			for n := s.From; n <= s.To; n++ {
				refused(t, "a dot that is there", c.t, c.s, at(s.DC, n))
			}
		}
	}
	for _, path := range [][]string{nil, {"a"}, {"b"}, {"a", "b"}, {"b", "a"}, {"a", "b", "c", "d"}} {
		refused(t, "alone", below(leaf(at(0, 1)), path...), "a", at(0, 1))
		refused(t, "among others", below(leaf(at(0, 1), at(1, 3), at(3, most)), path...), "a", at(1, 3))
	}
}

// Of kids there is room for MaxKids, whatever stands below them; who is there has room.
func TestFull(t *testing.T) {
	for n := range 40 {
		x := many(n)
		if n > 1 {
			// A kid without entries of its own counts, and is one that is there; entries of the root don't count.
			x.Kids[1].T = below(leaf(at(0, 2)), "a", "b")
			x.Entries = leaf(at(1, 1), at(1, 2)).Entries
		}
		want := api.OK
		if n >= 24 {
			want = api.ErrFull
		}
		for _, s := range []string{"a", "k", "k99", "z", longest} {
			got, e := set.Add(x, s, at(2, 1))
			if e != want || nothing(got) != (e != api.OK) {
				t.Errorf("%d kids: Add of %q: %v %v, want %v", n, s, got, e, want)
			}
			if got, e := set.Del(x, s, at(2, 1)); e != api.OK || !slices.Equal(got.C, api.Ctx{sp(2, 1, 1)}) {
				t.Errorf("%d kids: Del of %q: %v %v", n, s, got, e)
			}
		}
		for i, k := range x.Kids {
			for _, c := range changes {
				if got, e := c.call(x, k.Key, at(2, 1)); e != api.OK || !slices.Equal(got.C, api.Ctx{sp(0, int64(i+1), int64(i+1)), sp(2, 1, 1)}) {
					t.Errorf("%d kids: %s of %q: %v %v", n, c.name, k.Key, got, e)
				}
			}
		}
	}
	// A tree of few kids has room, however many there are below these, and however many entries.
	wide := api.Tree{Kids: []api.Kid{{Key: "m", T: many(30)}}}
	for n := range int64(30) {
		wide.Entries = append(wide.Entries, api.Entry{Dot: at(1, n+1)})
	}
	if _, e := set.Add(wide, "a", at(2, 1)); e != api.OK {
		t.Error(e)
	}
}

// Of a full set, too, the tree, the dot and the text are asked first.
func TestFullIsAskedLast(t *testing.T) {
	for _, n := range []int{24, 25, 39} {
		for _, s := range wrongTexts() {
			refused(t, "full", many(n), s, at(2, 1))
		}
		for _, d := range append(wrongDots(), at(0, 1), at(0, int64(n))) {
			refused(t, "full", many(n), "z", d)
		}
		wrong := many(n)
		wrong.Kids[n-1].T = api.Tree{}
		refused(t, "full", wrong, "z", at(2, 1))
	}
}

func TestElems(t *testing.T) {
	for i, c := range []struct {
		t    api.Tree
		want []string
	}{
		{api.Tree{}, nil},
		{api.Tree{Entries: []api.Entry{}, Kids: []api.Kid{}}, nil},
		{leaf(at(0, 1)), nil},
		{below(leaf(at(0, 1)), "a"), []string{"a"}},
		{below(leaf(at(0, 1), at(1, 1), at(2, 1)), longest), []string{longest}},
		{both(leaf(at(0, 1)), below(leaf(at(0, 1)), "a")), []string{"a"}},
		// The entries of a kid's kids aren't its own.
		{below(leaf(at(0, 1)), "a", "b"), nil},
		{below(leaf(at(0, 1)), "a", "b", "c", "d"), nil},
		{below(both(leaf(at(0, 1)), below(leaf(at(0, 2)), "b")), "a"), []string{"a"}},
		{some(), []string{"a", "ab", "b"}},
		// They rise as bytes.
		{api.Tree{Kids: []api.Kid{
			{Key: "\x00", T: leaf(at(0, 1))}, {Key: "B", T: leaf(at(0, 2))}, {Key: "a", T: leaf(at(0, 3))},
			{Key: "a\x00", T: leaf(at(0, 4))}, {Key: "ü", T: leaf(at(0, 5))}, {Key: "\xff", T: leaf(at(0, 6))},
		}}, []string{"\x00", "B", "a", "a\x00", "ü", "\xff"}},
	} {
		if got := set.Elems(c.t); !slices.Equal(got, c.want) {
			t.Errorf("%d: Elems(%v): %q, want %q", i, c.t, got, c.want)
		}
		for _, s := range []string{"", "\x00", "A", "B", "a", "a\x00", "ab", "b", "c", "d", "ü", "\xc3", "\xff", longest, tooLong} {
			if set.Has(c.t, s) != slices.Contains(c.want, s) {
				t.Errorf("%d: Has(%v, %q): %v", i, c.t, s, set.Has(c.t, s))
			}
		}
	}
	// What has more than MaxKids kids is right, and has them all.
	if l := set.Elems(many(99)); len(l) != 99 || !slices.IsSorted(l) || !set.Has(many(99), "k98") || set.Has(many(98), "k98") {
		t.Errorf("%q", l)
	}
}

// join answers all of l joined.
func join(t *testing.T, l ...api.Causal) api.Causal {
	t.Helper()
	c, e := causal.JoinAll(l...)
	if e != api.OK {
		t.Fatal(l, e)
	}
	return c
}

// Joined to the tree the text is there, or gone, and all else is as it was.
func TestJoined(t *testing.T) {
	for i, c := range rights() {
		own, _ := tree.Dots(c.t)
		for _, change := range changes {
			d, _ := change.call(c.t, c.s, c.d)
			got := join(t, api.Causal{T: c.t, C: own}, d)
			want := slices.DeleteFunc(set.Elems(c.t), func(s string) bool { return s == c.s })
			if change.in {
				want = append(want, c.s)
				slices.Sort(want)
			}
			if !slices.Equal(set.Elems(got.T), want) || set.Has(got.T, c.s) != change.in {
				t.Errorf("%d: %s: %q, want %q", i, change.name, set.Elems(got.T), want)
			}
			if !tree.Same(tree.Without(got.T, c.s), tree.Without(c.t, c.s)) || !tree.Same(tree.Get(got.T, c.s), tree.Get(d.T, c.s)) {
				t.Errorf("%d: %s: %v, from %v", i, change.name, got, c.t)
			}
			if !slices.Equal(got.C, context.Union(own, d.C)) {
				t.Errorf("%d: %s: %v", i, change.name, got.C)
			}
		}
	}
}

// Added at one center, while it is taken away at another one, a text is there, whatever was.
func TestBesideOneAnother(t *testing.T) {
	for i, c := range rights() {
		own, _ := tree.Dots(c.t)
		ground := api.Causal{T: c.t, C: own}
		// Another dot that the tree hasn't.
		other := at((c.d.DC+1)%api.MaxDC, 40)
		for _, a := range changes {
			for _, b := range changes {
				x, e := a.call(c.t, c.s, c.d)
				y, f := b.call(c.t, c.s, other)
				if e != api.OK || f != api.OK {
					t.Fatal(i, e, f)
				}
				for _, got := range []api.Causal{join(t, ground, x, y), join(t, ground, y, x), join(t, join(t, ground, x), join(t, ground, y)), join(t, x, y)} {
					if set.Has(got.T, c.s) != (a.in || b.in) {
						t.Errorf("%d: %s beside %s: %v", i, a.name, b.name, got)
					}
				}
			}
		}
	}
}

// Four changes of two texts, each upon what the deltas of some of those ahead of it make: a text is there, if one added it that no other change of it had seen.
func TestAllWaysOfFour(t *testing.T) {
	const n = 4
	// Six bits tell of each change which of those ahead it has seen, four more which of them add, four more which are of "b".
	for bits := range 1 << (n*(n-1)/2 + 2*n) {
		var deltas [n]api.Causal
		var seen [n][n]bool
		var texts [n]string
		adds, ofB, rest := bits&(1<<n-1), bits>>n&(1<<n-1), bits>>(2*n)
		for j := range n {
			var l []api.Causal
			for i := range j {
				if rest&1 == 1 {
					seen[j][i] = true
					for k := range i {
						seen[j][k] = seen[j][k] || seen[i][k]
					}
				}
				rest >>= 1
			}
			for i := range j {
				if seen[j][i] {
					l = append(l, deltas[i])
				}
			}
			texts[j] = "ab"[ofB>>j&1:][:1]
			d, e := changes[1-adds>>j&1].call(join(t, l...).T, texts[j], at(j%3, int64(1+j/3)))
			if e != api.OK {
				t.Fatal(bits, j, e)
			}
			deltas[j] = d
		}
		entries := map[string]int{}
		for i := range n {
			last := adds>>i&1 == 1
			for j := range n {
				last = last && !(seen[j][i] && texts[j] == texts[i])
			}
			if last {
				entries[texts[i]]++
			}
		}
		got := join(t, deltas[:]...)
		for _, s := range []string{"a", "b"} {
			if set.Has(got.T, s) != (entries[s] > 0) || len(tree.Get(got.T, s).Entries) != entries[s] {
				t.Fatalf("%b: %v, want %d entries of %q", bits, got, entries[s], s)
			}
		}
		if len(set.Elems(got.T)) != len(entries) {
			t.Fatalf("%b: %q, want %d", bits, set.Elems(got.T), len(entries))
		}
	}
}

// What is added to a set text by text fills it; what is taken away makes room.
func TestFilled(t *testing.T) {
	var c api.Causal
	var n int64
	change := func(call func(api.Tree, string, api.Dot) (api.Causal, api.Errno), s string, want api.Errno) {
		t.Helper()
		n++
		d, e := call(c.T, s, at(1, n))
		if e != want {
			t.Fatalf("%q: %v, want %v", s, e, want)
		}
		c = join(t, c, d)
	}
	var l []string
	for _, k := range many(24).Kids {
		change(set.Add, k.Key, api.OK)
		l = append(l, k.Key)
	}
	change(set.Add, "a", api.ErrFull)
	change(set.Add, "k07", api.OK)
	change(set.Del, "a", api.OK)
	change(set.Add, "a", api.ErrFull)
	change(set.Del, "k07", api.OK)
	change(set.Add, "k07", api.OK)
	change(set.Del, "k23", api.OK)
	change(set.Add, "a", api.OK)
	change(set.Add, "k23", api.ErrFull)
	if want := append([]string{"a"}, l[:23]...); !slices.Equal(set.Elems(c.T), want) {
		t.Errorf("%q, want %q", set.Elems(c.T), want)
	}
}

// Of many entries of one kid, and of many kids.
func TestOfMany(t *testing.T) {
	const n = 1 << 15
	var x api.Tree
	var want api.Ctx
	for i := range int64(n) {
		x.Kids = append(x.Kids, api.Kid{Key: string([]byte{1 + byte(i>>8), byte(i)}), T: leaf(at(2, i+1))})
	}
	last := api.Kid{Key: "\xff"}
	for i := range int64(n) {
		last.T.Entries = append(last.T.Entries, api.Entry{Dot: at(1, 2*i+1)})
		want = append(want, sp(1, 2*i+1, 2*i+1))
	}
	x.Kids = append(x.Kids, last)
	want = append(want, sp(2, n+1, n+1))
	for _, c := range changes {
		if got, e := c.call(x, "\xff", at(2, n+1)); e != api.OK || set.Has(got.T, "\xff") != c.in || !slices.Equal(got.C, want) {
			t.Error(c.name, e, len(got.C))
		}
		refused(t, "of many", x, "\xff", at(2, n/2))
	}
	if l := set.Elems(x); len(l) != n+1 || l[0] != "\x01\x00" || l[n] != "\xff" {
		t.Error(len(l))
	}
}

// roomy answers t with spare room, in which something stands, behind each of its lists.
func roomy(t api.Tree) api.Tree {
	var y api.Tree
	n, m := len(t.Entries), len(t.Kids)
	y.Entries = append(slices.Clone(t.Entries), api.Entry{S: "spare"}, api.Entry{S: "spare"})[:n]
	for _, k := range t.Kids {
		y.Kids = append(y.Kids, api.Kid{Key: k.Key, T: roomy(k.T)})
	}
	y.Kids = append(y.Kids, api.Kid{Key: "spare"}, api.Kid{Key: "spare"})[:m]
	return y
}

// intact tells whether y is t as roomy made it.
func intact(t, y api.Tree) bool {
	n, m := len(t.Entries), len(t.Kids)
	if !slices.Equal(y.Entries, t.Entries) || !slices.Equal(y.Entries[n:n+2], []api.Entry{{S: "spare"}, {S: "spare"}}) {
		return false
	}
	for _, k := range y.Kids[m : m+2] {
		if k.Key != "spare" || !tree.Empty(k.T) {
			return false
		}
	}
	return slices.EqualFunc(t.Kids, y.Kids, func(a, b api.Kid) bool { return a.Key == b.Key && intact(a.T, b.T) })
}

// What is handed in stays as it is, its spare room too, and what is answered is new memory.
func TestAnswersStandAlone(t *testing.T) {
	for i, c := range rights() {
		x := roomy(c.t)
		elems := set.Elems(c.t)
		for range 2 {
			got, e := set.Add(x, c.s, c.d)
			if e != api.OK || !slices.Equal(got.C, c.want) || !tree.Same(got.T, below(leaf(c.d), c.s)) {
				t.Fatalf("%d: Add, perhaps again: %v %v", i, got, e)
			}
			clear(got.T.Kids[0].T.Entries[:cap(got.T.Kids[0].T.Entries)])
			clear(got.T.Kids[:cap(got.T.Kids)])
			clear(got.C[:cap(got.C)])
			got, e = set.Del(x, c.s, c.d)
			if e != api.OK || !slices.Equal(got.C, c.want) || !tree.Empty(got.T) {
				t.Errorf("%d: Del, perhaps again: %v %v", i, got, e)
			}
			clear(got.C[:cap(got.C)])
			l := set.Elems(x)
			if !slices.Equal(l, elems) || set.Has(x, c.s) != slices.Contains(elems, c.s) {
				t.Errorf("%d: Elems, perhaps again: %q", i, l)
			}
			clear(l[:cap(l)])
		}
		if !intact(c.t, x) {
			t.Errorf("%d: what was handed in, or its spare room, is changed: %v", i, x)
		}
	}
}
