package ormap_test

import (
	"math"
	"slices"
	"strings"
	"testing"

	"tributary/api"
	"tributary/causal"
	"tributary/context"
	"tributary/counter"
	"tributary/flag"
	"tributary/ormap"
	"tributary/register"
	"tributary/set"
	"tributary/tree"
)

const (
	most = int64(api.MaxDot)
	inc  = int64(api.MaxInc)
)

// longest and tooLong are texts of MaxText bytes, and of one more.
var (
	longest = strings.Repeat("x", api.MaxText)
	tooLong = longest + "x"
)

// at makes a dot.
func at(dc int, n int64) api.Dot { return api.Dot{DC: dc, N: n} }

// sp makes a span.
func sp(dc int, from, to int64) api.Span { return api.Span{DC: dc, From: from, To: to} }

// leaf makes a tree of entries of these dots alone.
func leaf(l ...api.Dot) api.Tree {
	var t api.Tree
	for _, d := range l {
		t.Entries = append(t.Entries, api.Entry{Dot: d})
	}
	return t
}

// below makes a tree of that path alone, at whose end is t.
func below(t api.Tree, path ...string) api.Tree {
	for i := len(path) - 1; i >= 0; i-- {
		t = api.Tree{Kids: []api.Kid{{Key: path[i], T: t}}}
	}
	return t
}

// both makes a tree of the entries of a, and the kids of b.
func both(a, b api.Tree) api.Tree { return api.Tree{Entries: a.Entries, Kids: b.Kids} }

// known makes what is known of a tree and a context.
func known(t api.Tree, c ...api.Span) api.Causal { return api.Causal{T: t, C: c} }

// one makes a delta of an entry of {0, n}, and of that dot.
func one(n int64) api.Causal { return known(leaf(at(0, n)), sp(0, n, n)) }

// some is a tree of entries on each of three levels, a dot of it at two places; it hasn't {0, 3}.
func some() api.Tree {
	return api.Tree{
		Entries: []api.Entry{{Dot: at(0, 1), S: "y"}, {Dot: at(2, 7), S: "z", N: -3}},
		Kids: []api.Kid{
			{Key: "a", T: leaf(at(0, 2), at(0, 4))},
			{Key: "ab", T: leaf(at(3, 2))},
			{Key: "b", T: both(leaf(at(3, 1)), api.Tree{Kids: []api.Kid{{Key: "a", T: leaf(at(0, 2))}, {Key: "c", T: leaf(at(0, 5))}}})},
			{Key: "c", T: below(leaf(at(1, 5)), "c")},
		},
	}
}

// many makes a tree of n kids, k00 and on, each of one entry by center 0.
func many(n int) api.Tree {
	var t api.Tree
	for i := range n {
		t.Kids = append(t.Kids, api.Kid{Key: "k" + string([]byte{'0' + byte(i/10), '0' + byte(i%10)}), T: leaf(at(0, int64(i+1)))})
	}
	return t
}

// rights answers trees, each with a dot that it hasn't, the context of the delta of its Reset by that dot, and its keys.
func rights() []struct {
	t    api.Tree
	d    api.Dot
	want api.Ctx
	keys []string
} {
	return []struct {
		t    api.Tree
		d    api.Dot
		want api.Ctx
		keys []string
	}{
		// An empty tree, and the least and the greatest dots.
		{api.Tree{}, at(0, 1), api.Ctx{sp(0, 1, 1)}, nil},
		{api.Tree{Entries: []api.Entry{}, Kids: []api.Kid{}}, at(1, 4), api.Ctx{sp(1, 4, 4)}, nil},
		{api.Tree{}, at(3, most), api.Ctx{sp(3, most, most)}, nil},
		// Entries of the root are of no key, and go, too.
		{leaf(at(0, 1)), at(0, 2), api.Ctx{sp(0, 1, 2)}, nil},
		{leaf(at(0, 1), at(1, 4)), at(1, 3), api.Ctx{sp(0, 1, 1), sp(1, 3, 4)}, nil},
		// A kid with entries, or with kids alone, or with both: its key is one, those below it aren't.
		{below(leaf(at(1, 4)), "a"), at(1, 5), api.Ctx{sp(1, 4, 5)}, []string{"a"}},
		{below(leaf(at(1, 4)), "a", "b"), at(1, 9), api.Ctx{sp(1, 4, 4), sp(1, 9, 9)}, []string{"a"}},
		{below(leaf(at(1, 4)), "a", "b", "c", longest), at(0, 4), api.Ctx{sp(0, 4, 4), sp(1, 4, 4)}, []string{"a"}},
		{below(leaf(at(2, most-1)), longest), at(2, most), api.Ctx{sp(2, most-1, most)}, []string{longest}},
		{both(leaf(at(0, 1), at(0, 2)), below(leaf(at(0, 3)), "a")), at(0, 4), api.Ctx{sp(0, 1, 4)}, []string{"a"}},
		{below(both(leaf(at(0, 1)), below(leaf(at(0, 3)), "b")), "a"), at(0, 2), api.Ctx{sp(0, 1, 3)}, []string{"a"}},
		{some(), at(0, 3), api.Ctx{sp(0, 1, 5), sp(1, 5, 5), sp(2, 7, 7), sp(3, 1, 2)}, []string{"a", "ab", "b", "c"}},
		{some(), at(1, 4), api.Ctx{sp(0, 1, 2), sp(0, 4, 5), sp(1, 4, 5), sp(2, 7, 7), sp(3, 1, 2)}, []string{"a", "ab", "b", "c"}},
		// They rise as bytes, and are any bytes.
		{
			api.Tree{Kids: []api.Kid{
				{Key: "\x00", T: leaf(at(0, 1))}, {Key: "B", T: leaf(at(0, 2))}, {Key: "a", T: leaf(at(0, 3))},
				{Key: "a\x00", T: below(leaf(at(0, 4)), "z")}, {Key: "ü", T: leaf(at(0, 5))}, {Key: "\xff", T: leaf(at(0, 6))},
			}}, at(1, 1), api.Ctx{sp(0, 1, 6), sp(1, 1, 1)}, []string{"\x00", "B", "a", "a\x00", "ü", "\xff"},
		},
	}
}

// wrongDots answers dots that aren't right.
func wrongDots() []api.Dot {
	return []api.Dot{
		{}, at(0, 0), at(3, 0), at(0, -1), at(1, math.MinInt64), at(0, most+1), at(3, math.MaxInt64),
		at(-1, 1), at(api.MaxDC, 1), at(math.MinInt, 1), at(math.MaxInt, most),
	}
}

// keys answers keys that may be, and wrongKeys some that may not.
func keys() []string {
	return []string{"a", "b", "ab", "a\x00", "\x00", "\xff\xfe", "ü", "zz", strings.Repeat("ü", 15), strings.Repeat("\x00", 30), longest[1:], longest}
}

func wrongKeys() []string {
	return []string{"", tooLong, tooLong + "x", strings.Repeat("ü", 16), strings.Repeat("\x00", 31), strings.Repeat("a", 1<<20)}
}

// wrongTrees answers trees that aren't right, each for one cause, with a kid "a" beside it where that may be. None of them has {2, 9}, and all dots that are right are of center 0 or 1, from 1 to 2.
func wrongTrees() map[string]api.Tree {
	a := below(leaf(at(0, 1)), "a")
	m := map[string]api.Tree{
		"the zero entry":          both(leaf(api.Dot{}), a),
		"a dot above MaxDot":      both(leaf(at(0, most+1)), a),
		"no center":               both(leaf(at(api.MaxDC, 1)), a),
		"a center below 0":        both(leaf(at(-1, 1)), a),
		"one dot twice":           both(leaf(at(0, 2), at(0, 2)), a),
		"the dots fall":           both(leaf(at(1, 1), at(0, 2)), a),
		"a text too long":         {Entries: []api.Entry{{Dot: at(0, 1), S: tooLong}}, Kids: a.Kids},
		"a number above MaxInc":   {Entries: []api.Entry{{Dot: at(0, 1), N: inc + 1}}, Kids: a.Kids},
		"a number too low":        {Entries: []api.Entry{{Dot: at(0, 1), N: -inc - 1}}, Kids: a.Kids},
		"no key":                  {Kids: []api.Kid{{Key: "", T: leaf(at(0, 2))}, a.Kids[0]}},
		"a key too long":          {Kids: []api.Kid{a.Kids[0], {Key: tooLong, T: leaf(at(0, 2))}}},
		"one key twice":           {Kids: []api.Kid{a.Kids[0], a.Kids[0]}},
		"the keys fall":           {Kids: []api.Kid{{Key: "b", T: leaf(at(0, 2))}, a.Kids[0]}},
		"an empty kid":            {Kids: []api.Kid{a.Kids[0], {Key: "b"}}},
		"an empty kid alone":      below(api.Tree{}, "a"),
		"an empty kid of kids":    below(api.Tree{}, "a", "b"),
		"a wrong kid":             below(leaf(at(0, 0)), "a"),
		"a wrong kid, the second": {Kids: []api.Kid{a.Kids[0], {Key: "b", T: leaf(at(0, 0))}}},
		"six levels":              below(both(leaf(at(0, 1)), below(leaf(at(0, 1)), "b", "c", "d", "e")), "a"),
		"far too deep":            below(leaf(at(0, 1)), strings.Split(strings.Repeat("k", 1<<16), "")...),
	}
	// A tree of itself has no end.
	round := []api.Kid{{Key: "a", T: leaf(at(0, 1))}}
	round[0].T.Kids = round
	m["its own kid"] = api.Tree{Kids: round}
	return m
}

// wrongDeltas answers what isn't right to be known, each for one cause.
func wrongDeltas() map[string]api.Causal {
	d := leaf(at(0, 1), at(1, 1))
	m := map[string]api.Causal{
		"no context":                   known(d),
		"without the first dot":        known(d, sp(1, 1, 1)),
		"without the last dot":         known(d, sp(0, 1, 1)),
		"without a dot below":          known(both(d, below(leaf(at(2, 1)), "b", "c")), sp(0, 1, 1), sp(1, 1, 1)),
		"the number of another center": known(leaf(at(0, 1)), sp(1, 1, 1)),
		"the next number":              known(leaf(at(0, 1)), sp(0, 2, 9)),
	}
	for _, x := range []api.Tree{{}, leaf(at(0, 2))} {
		where := " of an entry"
		if tree.Empty(x) {
			where = " of no tree"
		}
		m["a span that falls"+where] = known(x, sp(0, 2, 2), sp(1, 2, 1))
		m["the spans fall"+where] = known(x, sp(1, 1, 1), sp(0, 2, 2))
		m["one span twice"+where] = known(x, sp(0, 2, 2), sp(0, 2, 2))
		m["no gap"+where] = known(x, sp(0, 1, 1), sp(0, 2, 2))
		m["the dot 0"+where] = known(x, sp(0, 0, 2))
		m["dots above MaxDot"+where] = known(x, sp(0, 1, most+1))
		m["no center"+where] = known(x, sp(0, 1, 2), sp(api.MaxDC, 1, 1))
		m["a center below 0"+where] = known(x, sp(-1, 1, 1), sp(0, 1, 2))
	}
	for what, x := range wrongTrees() {
		m["a tree: "+what] = known(x, sp(0, 1, most), sp(1, 1, most), sp(2, 1, most), sp(3, 1, most))
	}
	return m
}

// deltas answers what may be put below a key, of at most four levels: changes of each kind, and what is no one's delta, but right.
func deltas(t *testing.T) []api.Causal {
	must := func(c api.Causal, e api.Errno) api.Causal {
		t.Helper()
		if e != api.OK {
			t.Fatal(e)
		}
		return c
	}
	return []api.Causal{
		// Nothing at all, and nothing but what is known.
		{},
		{T: api.Tree{Entries: []api.Entry{}, Kids: []api.Kid{}}, C: api.Ctx{}},
		known(api.Tree{}, sp(0, 1, 1)),
		known(api.Tree{}, sp(0, 1, most), sp(1, 1, most), sp(2, 1, most), sp(3, 1, most)),
		known(api.Tree{}, sp(0, 2, 3), sp(0, 5, 5), sp(3, most, most)),
		// Of each kind, upon nothing, and upon something.
		must(flag.Enable(leaf(at(0, 1), at(1, 1)), at(2, 3))),
		must(flag.Disable(leaf(at(0, 1), at(1, 1)), at(2, 3))),
		must(set.Add(some(), "b", at(0, 3))),
		must(set.Add(api.Tree{}, longest, at(3, most))),
		must(set.Del(some(), "b", at(0, 3))),
		must(counter.Inc(leaf(at(0, 1)), -inc, at(2, 3))),
		must(counter.Inc(api.Tree{}, inc, at(2, 3))),
		must(register.Write(leaf(at(0, 1), at(0, 3)), longest, at(2, 3))),
		must(ormap.Update(some(), "b", must(set.Add(api.Tree{}, "b", at(2, 3))))),
		must(ormap.Reset(some(), at(2, 3))),
		// Trees of entries and kids, their dots, and more than these.
		known(some(), sp(0, 1, 5), sp(1, 5, 5), sp(2, 7, 7), sp(3, 1, 2)),
		known(some(), sp(0, 1, 2), sp(0, 4, 5), sp(1, 1, 9), sp(2, 1, most), sp(3, 1, 2)),
		known(below(leaf(at(0, 1)), "a", "b", "c"), sp(0, 1, 1)),
		known(many(30), sp(0, 1, 30)),
	}
}

// nothing tells whether c is zero.
func nothing(c api.Causal) bool { return tree.Empty(c.T) && len(c.C) == 0 }

// wrong asks whether Update answers that error, and nothing else.
func wrong(t *testing.T, what string, x api.Tree, key string, delta api.Causal, want api.Errno) {
	t.Helper()
	if got, e := ormap.Update(x, key, delta); e != want || !nothing(got) {
		t.Errorf("%s: Update of %q: %v %v, want %v", what, key, got, e, want)
	}
}

// refused asks whether Reset answers ErrArg, and nothing else.
func refused(t *testing.T, what string, x api.Tree, d api.Dot) {
	t.Helper()
	if got, e := ormap.Reset(x, d); e != api.ErrArg || !nothing(got) {
		t.Errorf("%s: Reset by %v: %v %v", what, d, got, e)
	}
}

// wrapped answers what Update is to answer of a delta for which there is room.
func wrapped(key string, delta api.Causal) api.Causal {
	if tree.Empty(delta.T) {
		return api.Causal{C: delta.C}
	}
	return api.Causal{T: below(delta.T, key), C: delta.C}
}

func TestUpdate(t *testing.T) {
	for i, c := range rights() {
		for j, delta := range deltas(t) {
			for _, key := range append(keys(), c.keys...) {
				got, e := ormap.Update(c.t, key, delta)
				if e != api.OK || !causal.Same(got, wrapped(key, delta)) {
					t.Errorf("%d: Update of %q by %d: %v %v, want %v", i, key, j, got, e, wrapped(key, delta))
				}
			}
		}
	}
}

// What the tree has at that key, and which dots, isn't asked.
func TestUpdateWithDotsOfTheTree(t *testing.T) {
	x := both(leaf(at(0, 1)), below(leaf(at(0, 2)), "a"))
	for n := int64(1); n <= 3; n++ {
		for _, key := range []string{"a", "b"} {
			if got, e := ormap.Update(x, key, one(n)); e != api.OK || !causal.Same(got, wrapped(key, one(n))) {
				t.Errorf("%d below %q: %v %v", n, key, got, e)
			}
		}
	}
}

func TestUpdateOfWrongKeys(t *testing.T) {
	for _, key := range wrongKeys() {
		for _, c := range rights() {
			for _, delta := range deltas(t) {
				wrong(t, "a wrong key", c.t, key, delta, api.ErrArg)
			}
		}
	}
}

func TestUpdateOfWrongDeltas(t *testing.T) {
	for what, delta := range wrongDeltas() {
		if causal.Right(delta) {
			t.Errorf("%s: it is right", what)
		}
		for _, c := range rights() {
			wrong(t, what, c.t, "a", delta, api.ErrArg)
			wrong(t, what, c.t, "zz", delta, api.ErrArg)
			wrong(t, what, c.t, "", delta, api.ErrArg)
		}
	}
}

func TestOfWrongTrees(t *testing.T) {
	for what, x := range wrongTrees() {
		for _, delta := range deltas(t) {
			for _, key := range []string{"a", "b", "zz", longest, "", tooLong} {
				wrong(t, what, x, key, delta, api.ErrArg)
			}
		}
		for _, d := range append(wrongDots(), at(2, 9)) {
			refused(t, what, x, d)
		}
		if l := ormap.Keys(x); len(l) > 0 {
			t.Errorf("%s: Keys: %q", what, l)
		}
	}
}

// Of keys there is room for MaxKids, whatever stands below them; what is there has room, and nothing takes none.
func TestFull(t *testing.T) {
	for n := range 40 {
		x := many(n)
		if n > 1 {
			// A kid without entries of its own counts, and is one that is there; entries of the root don't count.
			x.Kids[1].T = below(leaf(at(0, 2)), "a", "b")
			x.Entries = leaf(at(1, 1), at(1, 2)).Entries
		}
		for j, delta := range deltas(t) {
			want := api.OK
			if n >= 24 && !tree.Empty(delta.T) {
				want = api.ErrFull
			}
			for _, key := range []string{"a", "k", "k99", "z", "\x00", longest} {
				got, e := ormap.Update(x, key, delta)
				if e != want || e == api.OK && !causal.Same(got, wrapped(key, delta)) || e != api.OK && !nothing(got) {
					t.Errorf("%d kids: Update of %q by %d: %v %v, want %v", n, key, j, got, e, want)
				}
			}
			for _, k := range x.Kids {
				if got, e := ormap.Update(x, k.Key, delta); e != api.OK || !causal.Same(got, wrapped(k.Key, delta)) {
					t.Errorf("%d kids: Update of %q by %d: %v %v", n, k.Key, j, got, e)
				}
			}
		}
	}
	// A tree of few kids has room, however many there are below these, and however many entries.
	wide := api.Tree{Kids: []api.Kid{{Key: "m", T: many(30)}}}
	for n := range int64(30) {
		wide.Entries = append(wide.Entries, api.Entry{Dot: at(1, n+1)})
	}
	if _, e := ormap.Update(wide, "a", one(99)); e != api.OK {
		t.Error(e)
	}
}

// Of levels there is room for MaxDeep, of which one is the key's; how deep the map is doesn't matter.
func TestDeep(t *testing.T) {
	path := []string{"a", "b", "c", "d"}
	for n := range 5 {
		for _, delta := range []api.Causal{
			known(below(leaf(at(0, 9)), path[:n]...), sp(0, 9, 9)),
			// The deepest of several kids tells.
			known(both(leaf(at(0, 9)), api.Tree{Kids: append(below(leaf(at(0, 9)), append([]string{"A"}, path[:max(n, 1)-1]...)...).Kids, api.Kid{Key: "z", T: leaf(at(0, 9))})}), sp(0, 9, 9)),
		} {
			for _, x := range []api.Tree{{}, some(), below(leaf(at(0, 1)), "a", "b", "c", "d")} {
				got, e := ormap.Update(x, "a", delta)
				if n == 4 {
					wrong(t, "five levels", x, "a", delta, api.ErrDeep)
				} else if e != api.OK || !causal.Same(got, wrapped("a", delta)) {
					t.Errorf("%d keys: %v %v", n, got, e)
				}
			}
		}
	}
}

// The arguments are asked first, then the room, then the levels.
func TestOrderOfErrors(t *testing.T) {
	deep := known(below(leaf(at(0, 99)), "a", "b", "c", "d"), sp(0, 99, 99))
	for _, n := range []int{24, 25, 39} {
		wrong(t, "full and deep", many(n), "z", deep, api.ErrFull)
		wrong(t, "deep", many(n), "k07", deep, api.ErrDeep)
		for _, key := range wrongKeys() {
			wrong(t, "full and deep, and a wrong key", many(n), key, deep, api.ErrArg)
			wrong(t, "full, and a wrong key", many(n), key, one(99), api.ErrArg)
		}
		for what, delta := range wrongDeltas() {
			wrong(t, "full, and "+what, many(n), "z", delta, api.ErrArg)
		}
		broken := many(n)
		broken.Kids[n-1].T = api.Tree{}
		wrong(t, "full and deep, and a wrong tree", broken, "z", deep, api.ErrArg)
		wrong(t, "deep, and a wrong tree", broken, "k07", deep, api.ErrArg)
	}
	wrong(t, "deep", many(23), "z", deep, api.ErrDeep)
	wrong(t, "deep, and its dot isn't known", many(23), "z", api.Causal{T: deep.T}, api.ErrArg)
	for _, key := range wrongKeys() {
		wrong(t, "deep, and a wrong key", api.Tree{}, key, deep, api.ErrArg)
	}
}

func TestReset(t *testing.T) {
	for i, c := range rights() {
		got, e := ormap.Reset(c.t, c.d)
		if e != api.OK || !tree.Empty(got.T) || !slices.Equal(got.C, c.want) || !causal.Right(got) {
			t.Errorf("%d: %v %v, want %v", i, got, e, c.want)
		}
		for _, d := range wrongDots() {
			refused(t, "a wrong dot", c.t, d)
		}
		own, e := tree.Dots(c.t)
		if e != api.OK {
			t.Fatal(i, e)
		}
		for _, s := range own {
			for n := s.From; n <= s.To; n++ {
				refused(t, "a dot that is there", c.t, at(s.DC, n))
			}
		}
	}
	// A full one, and one of more kids than there is room for, is taken away like others.
	for _, n := range []int{24, 25, 99} {
		if got, e := ormap.Reset(many(n), at(0, int64(n+1))); e != api.OK || !tree.Empty(got.T) || !slices.Equal(got.C, api.Ctx{sp(0, 1, int64(n+1))}) {
			t.Errorf("%d: %v %v", n, got, e)
		}
	}
}

func TestKeys(t *testing.T) {
	for i, c := range rights() {
		if got := ormap.Keys(c.t); !slices.Equal(got, c.keys) {
			t.Errorf("%d: %q, want %q", i, got, c.keys)
		}
	}
	// What has more than MaxKids kids is right, and has them all.
	if l := ormap.Keys(many(99)); len(l) != 99 || !slices.IsSorted(l) || l[0] != "k00" || l[98] != "k98" {
		t.Errorf("%q", l)
	}
}

// join answers all of l joined.
func join(t *testing.T, l ...api.Causal) api.Causal {
	t.Helper()
	c, e := causal.JoinAll(l...)
	if e != api.OK {
		t.Fatal(l, e)
	}
	return c
}

// ground answers what is known of x alone: its dots.
func ground(t *testing.T, x api.Tree) api.Causal {
	t.Helper()
	c, e := tree.Dots(x)
	if e != api.OK {
		t.Fatal(x, e)
	}
	return api.Causal{T: x, C: c}
}

// Joined to the map, a change of what stands below a key is made there, and what has no dot that it has seen is as it was.
func TestUpdateJoined(t *testing.T) {
	for i, c := range rights() {
		for _, key := range append([]string{"a", "zz"}, c.keys...) {
			if len(tree.Get(c.t, key, "a", "b", "c").Entries) > 0 {
				// No text fits below the fifth level.
				continue
			}
			kid := tree.Get(c.t, key)
			delta, e := set.Add(kid, "n", c.d)
			if e != api.OK {
				t.Fatal(i, key, e)
			}
			u, e := ormap.Update(c.t, key, delta)
			if e != api.OK {
				t.Fatal(i, key, e)
			}
			want := join(t, ground(t, kid), delta)
			for _, got := range []api.Causal{join(t, ground(t, c.t), u), join(t, u, ground(t, c.t), u)} {
				if !tree.Same(tree.Get(got.T, key), want.T) || !tree.Same(tree.Without(got.T, key), tree.Without(c.t, key)) {
					t.Errorf("%d: %q: %v, from %v", i, key, got, c.t)
				}
				l := append(slices.Clone(c.keys), key)
				slices.Sort(l)
				if l = slices.Compact(l); !slices.Equal(ormap.Keys(got.T), l) {
					t.Errorf("%d: %q, want %q", i, ormap.Keys(got.T), l)
				}
				if !slices.Equal(got.C, context.Union(ground(t, c.t).C, delta.C)) {
					t.Errorf("%d: %v", i, got.C)
				}
			}
		}
	}
}

// A key is there as long as something stands below it.
func TestKeysComeAndGo(t *testing.T) {
	var c api.Causal
	step := func(key string, change func(kid api.Tree, d api.Dot) (api.Causal, api.Errno), n int64, want ...string) {
		t.Helper()
		delta, e := change(tree.Get(c.T, key), at(1, n))
		u, f := ormap.Update(c.T, key, delta)
		if e != api.OK || f != api.OK {
			t.Fatal(key, e, f)
		}
		if c = join(t, c, u); !slices.Equal(ormap.Keys(c.T), want) {
			t.Errorf("%d: %q, want %q", n, ormap.Keys(c.T), want)
		}
	}
	add := func(kid api.Tree, d api.Dot) (api.Causal, api.Errno) { return set.Add(kid, "x", d) }
	del := func(kid api.Tree, d api.Dot) (api.Causal, api.Errno) { return set.Del(kid, "x", d) }
	write := func(kid api.Tree, d api.Dot) (api.Causal, api.Errno) { return register.Write(kid, "", d) }
	step("s", add, 1, "s")
	step("f", flag.Enable, 2, "f", "s")
	step("r", write, 3, "f", "r", "s")
	step("s", del, 4, "f", "r")
	step("q", flag.Disable, 5, "f", "r")
	step("f", flag.Disable, 6, "r")
	step("s", add, 7, "r", "s")
	step("r", ormap.Reset, 8, "s")
	step("s", ormap.Reset, 9)
	step("f", flag.Enable, 10, "f")
	if !slices.Equal(c.C, api.Ctx{sp(1, 1, 10)}) || !tree.Same(c.T, below(leaf(at(1, 10)), "f")) {
		t.Error(c)
	}
}

// Of a map that is reset nothing stays but what was put there beside it.
func TestResetJoined(t *testing.T) {
	for i, c := range rights() {
		r, e := ormap.Reset(c.t, c.d)
		if e != api.OK {
			t.Fatal(i, e)
		}
		all := context.Union(ground(t, c.t).C, c.want)
		for _, got := range []api.Causal{join(t, ground(t, c.t), r), join(t, r, ground(t, c.t), r)} {
			if !tree.Empty(got.T) || !slices.Equal(got.C, all) || len(ormap.Keys(got.T)) > 0 {
				t.Errorf("%d: %v", i, got)
			}
		}
		// Another dot that the tree hasn't.
		other := at((c.d.DC+1)%api.MaxDC, 6000)
		for _, key := range append([]string{"a", "zz"}, c.keys...) {
			delta, e := flag.Enable(tree.Get(c.t, key), other)
			u, f := ormap.Update(c.t, key, delta)
			if e != api.OK || f != api.OK {
				t.Fatal(i, e, f)
			}
			for _, got := range []api.Causal{
				join(t, ground(t, c.t), r, u), join(t, u, r, ground(t, c.t)), join(t, u, r),
				join(t, join(t, ground(t, c.t), u), join(t, ground(t, c.t), r)),
			} {
				if !tree.Same(got.T, below(leaf(other), key)) {
					t.Errorf("%d: %q: %v", i, key, got)
				}
			}
		}
	}
}

// Four changes, each upon what the deltas of some of those ahead of it make: a key's flag is on, if one enabled it that no other change of that key, and no reset, had seen.
func TestAllWaysOfFour(t *testing.T) {
	const n = 4
	// Six bits tell of each change which of those ahead it has seen, eight more what it is: of "a" or of "b" on, of "a" off, or a reset.
	for bits := range 1 << (n*(n-1)/2 + 2*n) {
		var deltas [n]api.Causal
		var seen [n][n]bool
		rest := bits >> (2 * n)
		for j := range n {
			var l []api.Causal
			for i := range j {
				if rest&1 == 1 {
					seen[j][i] = true
					for k := range i {
						seen[j][k] = seen[j][k] || seen[i][k]
					}
				}
				rest >>= 1
			}
			for i := range j {
				if seen[j][i] {
					l = append(l, deltas[i])
				}
			}
			deltas[j] = changed(t, join(t, l...).T, bits>>(2*j)&3, at(j%3, int64(1+j/3)))
		}
		entries := map[string]int{}
		for i := range n {
			act := bits >> (2 * i) & 3
			last := act < 2
			for j := range n {
				by := bits >> (2 * j) & 3
				last = last && !(seen[j][i] && (by == act || by == 3 || by == 2 && act == 0))
			}
			if last {
				entries["ab"[act:act+1]]++
			}
		}
		got := join(t, deltas[:]...)
		for _, key := range []string{"a", "b"} {
			if len(tree.Get(got.T, key).Entries) != entries[key] || slices.Contains(ormap.Keys(got.T), key) != (entries[key] > 0) {
				t.Fatalf("%b: %v, want %d entries of %q", bits, got, entries[key], key)
			}
		}
		if tree.Size(got.T) != entries["a"]+entries["b"] {
			t.Fatalf("%b: %v", bits, got)
		}
	}
}

// changed answers the delta of a change of x: the flag of "a" (0) or of "b" (1) is turned on, that of "a" off (2), or x is reset (3).
func changed(t *testing.T, x api.Tree, act int, d api.Dot) api.Causal {
	t.Helper()
	key, call := "a", flag.Enable
	switch act {
	case 1:
		key = "b"
	case 2:
		call = flag.Disable
	case 3:
		r, e := ormap.Reset(x, d)
		if e != api.OK {
			t.Fatal(e)
		}
		return r
	}
	delta, e := call(tree.Get(x, key), d)
	u, f := ormap.Update(x, key, delta)
	if e != api.OK || f != api.OK {
		t.Fatal(e, f)
	}
	return u
}

// Of many kids and entries, and of a delta of many.
func TestOfMany(t *testing.T) {
	const n = 1 << 15
	var x, put api.Tree
	var want []string
	var c api.Ctx
	for i := range int64(n) {
		key := string([]byte{1 + byte(i>>8), byte(i)})
		x.Kids = append(x.Kids, api.Kid{Key: key, T: leaf(at(2, i+1))})
		want = append(want, key)
		put.Entries = append(put.Entries, api.Entry{Dot: at(1, 2*i+1)})
		c = append(c, sp(1, 2*i+1, 2*i+1))
	}
	delta := api.Causal{T: put, C: c}
	for _, key := range []string{want[0], want[n/2], want[n-1]} {
		if got, e := ormap.Update(x, key, delta); e != api.OK || !causal.Same(got, wrapped(key, delta)) {
			t.Error(e, len(got.C))
		}
	}
	wrong(t, "of many", x, "\xff", delta, api.ErrFull)
	if got := ormap.Keys(x); !slices.Equal(got, want) {
		t.Error(len(got))
	}
	if got, e := ormap.Reset(x, at(2, n+1)); e != api.OK || !slices.Equal(got.C, api.Ctx{sp(2, 1, n+1)}) {
		t.Error(got, e)
	}
}

// roomy answers t with spare room, in which something stands, behind each of its lists.
func roomy(t api.Tree) api.Tree {
	var y api.Tree
	n, m := len(t.Entries), len(t.Kids)
	y.Entries = append(slices.Clone(t.Entries), api.Entry{S: "spare"}, api.Entry{S: "spare"})[:n]
	for _, k := range t.Kids {
		y.Kids = append(y.Kids, api.Kid{Key: k.Key, T: roomy(k.T)})
	}
	y.Kids = append(y.Kids, api.Kid{Key: "spare"}, api.Kid{Key: "spare"})[:m]
	return y
}

// intact tells whether y is t as roomy made it.
func intact(t, y api.Tree) bool {
	n, m := len(t.Entries), len(t.Kids)
	if !slices.Equal(y.Entries, t.Entries) || !slices.Equal(y.Entries[n:n+2], []api.Entry{{S: "spare"}, {S: "spare"}}) {
		return false
	}
	for _, k := range y.Kids[m : m+2] {
		if k.Key != "spare" || !tree.Empty(k.T) {
			return false
		}
	}
	return slices.EqualFunc(t.Kids, y.Kids, func(a, b api.Kid) bool { return a.Key == b.Key && intact(a.T, b.T) })
}

// spoil writes over all lists of t, and over their spare room.
func spoil(t api.Tree) {
	for _, k := range t.Kids {
		spoil(k.T)
	}
	clear(t.Entries[:cap(t.Entries)])
	clear(t.Kids[:cap(t.Kids)])
}

// What is handed in stays as it is, its spare room too, and what is answered is new memory.
func TestAnswersStandAlone(t *testing.T) {
	for i, c := range rights() {
		x := roomy(c.t)
		for j, delta := range deltas(t) {
			n := len(delta.C)
			y := api.Causal{T: roomy(delta.T), C: append(slices.Clone(delta.C), sp(9, 9, 9), sp(9, 9, 9))[:n]}
			for range 2 {
				got, e := ormap.Update(x, "a", y)
				if e != api.OK || !causal.Same(got, wrapped("a", delta)) {
					t.Fatalf("%d: Update by %d, perhaps again: %v %v", i, j, got, e)
				}
				spoil(got.T)
				clear(got.C[:cap(got.C)])
			}
			if !intact(delta.T, y.T) || !slices.Equal(y.C, delta.C) || !slices.Equal(y.C[n:n+2], api.Ctx{sp(9, 9, 9), sp(9, 9, 9)}) {
				t.Errorf("%d: what was handed in, or its spare room, is changed: %v", j, y)
			}
		}
		for range 2 {
			got, e := ormap.Reset(x, c.d)
			if e != api.OK || !slices.Equal(got.C, c.want) {
				t.Errorf("%d: Reset, perhaps again: %v %v", i, got, e)
			}
			clear(got.C[:cap(got.C)])
			l := ormap.Keys(x)
			if !slices.Equal(l, c.keys) {
				t.Errorf("%d: Keys, perhaps again: %q", i, l)
			}
			clear(l[:cap(l)])
		}
		if !intact(c.t, x) {
			t.Errorf("%d: what was handed in, or its spare room, is changed: %v", i, x)
		}
	}
}
