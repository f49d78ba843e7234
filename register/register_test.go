package register_test

import (
	"math"
	"slices"
	"strings"
	"testing"

	"tributary/api"
	"tributary/causal"
	"tributary/context"
	"tributary/flag"
	"tributary/register"
	"tributary/tree"
)

const (
	most = int64(api.MaxDot)
	inc  = int64(api.MaxInc)
)

// longest and tooLong are texts of MaxText bytes, and of one more.
var (
	longest = strings.Repeat("x", api.MaxText)
	tooLong = longest + "x"
)

// at makes a dot.
func at(dc int, n int64) api.Dot { return api.Dot{DC: dc, N: n} }

// sp makes a span.
func sp(dc int, from, to int64) api.Span { return api.Span{DC: dc, From: from, To: to} }

// en makes an entry that has s.
func en(dc int, n int64, s string) api.Entry { return api.Entry{Dot: at(dc, n), S: s} }

// leaf makes a tree of entries alone.
func leaf(l ...api.Entry) api.Tree { return api.Tree{Entries: l} }

// below makes a tree of that path alone, at whose end is t.
func below(t api.Tree, path ...string) api.Tree {
	for i := len(path) - 1; i >= 0; i-- {
		t = api.Tree{Kids: []api.Kid{{Key: path[i], T: t}}}
	}
	return t
}

// both makes a tree of the entries of a, and the kids of b.
func both(a, b api.Tree) api.Tree { return api.Tree{Entries: a.Entries, Kids: b.Kids} }

// some is a tree of entries on each of three levels, a dot of it at two places; it hasn't {0, 3}.
func some() api.Tree {
	return api.Tree{
		Entries: []api.Entry{en(0, 1, "y"), {Dot: at(2, 7), S: "x", N: -3}},
		Kids: []api.Kid{
			{Key: "a", T: leaf(en(0, 2, "k"), en(0, 4, "l"))},
			{Key: "b", T: both(leaf(en(3, 1, "m")), api.Tree{Kids: []api.Kid{{Key: "a", T: leaf(en(0, 2, "n"))}, {Key: "c", T: leaf(en(0, 5, "o"))}}})},
			{Key: "c", T: below(leaf(en(1, 5, "p")), "c")},
		},
	}
}

// many makes a tree of n entries by center 0, with three texts in turn.
func many(n int) api.Tree {
	var t api.Tree
	for i := range int64(n) {
		t.Entries = append(t.Entries, en(0, i+1, "cab"[i%3:][:1]))
	}
	return t
}

// wrongDots answers dots that aren't right.
func wrongDots() []api.Dot {
	return []api.Dot{
		{}, at(0, 0), at(3, 0), at(0, -1), at(1, math.MinInt64), at(0, most+1), at(3, math.MaxInt64),
		at(-1, 1), at(api.MaxDC, 1), at(math.MinInt, 1), at(math.MaxInt, most),
	}
}

// texts answers texts that may be written.
func texts() []string {
	return []string{"", "a", "b", "a\x00", "\x00", "\xff\xfe", "ü", strings.Repeat("ü", 15), strings.Repeat("\x00", 30), longest[1:], longest}
}

// wrongTexts answers texts that are too long.
func wrongTexts() []string {
	return []string{tooLong, tooLong + "x", strings.Repeat("ü", 16), strings.Repeat("\x00", 31), strings.Repeat("a", 1<<20)}
}

// wrongTrees answers trees that aren't right, each for one cause, with an entry beside it that has a text where that may be. None of them has {2, 9}.
func wrongTrees() map[string]api.Tree {
	one := leaf(en(0, 1, "s"))
	m := map[string]api.Tree{
		"the zero entry":        {Entries: []api.Entry{{}}},
		"a number below 1":      leaf(en(0, 0, "s")),
		"a dot above MaxDot":    leaf(en(0, most+1, "s")),
		"no center":             leaf(en(api.MaxDC, 1, "s")),
		"a center below 0":      leaf(en(-1, 1, "s")),
		"the last dot is none":  leaf(en(0, 1, "s"), en(1, 1, "s"), en(4, 1, "s")),
		"one dot twice":         leaf(en(0, 2, "s"), en(0, 2, "s")),
		"the dots fall":         leaf(en(1, 1, "s"), en(0, 2, "s")),
		"a text too long":       leaf(en(0, 1, tooLong)),
		"a number above MaxInc": {Entries: []api.Entry{{Dot: at(0, 1), S: "s", N: inc + 1}}},
		"a number too low":      {Entries: []api.Entry{{Dot: at(0, 1), S: "s", N: -inc - 1}}},
		"no key":                both(one, below(one, "")),
		"a key too long":        both(one, below(one, tooLong)),
		"one key twice":         {Entries: one.Entries, Kids: []api.Kid{{Key: "a", T: one}, {Key: "a", T: one}}},
		"the keys fall":         {Entries: one.Entries, Kids: []api.Kid{{Key: "b", T: one}, {Key: "a", T: one}}},
		"an empty kid":          both(one, below(api.Tree{}, "a")),
		"an empty kid of kids":  both(one, below(api.Tree{}, "a", "b")),
		"a wrong kid":           both(one, below(leaf(en(0, 0, "s")), "a")),
		"six levels":            both(one, below(one, "a", "b", "c", "d", "e")),
		"far too deep":          both(one, below(one, strings.Split(strings.Repeat("k", 1<<16), "")...)),
	}
	// A tree of itself has no end.
	round := []api.Kid{{Key: "a", T: one}}
	round[0].T.Kids = round
	m["its own kid"] = api.Tree{Entries: one.Entries, Kids: round}
	return m
}

// rights answers trees, each with a dot that it hasn't, the context of the delta of a change of it by that dot, and what stands in it.
func rights() []struct {
	t    api.Tree
	d    api.Dot
	want api.Ctx
	l    []string
} {
	return []struct {
		t    api.Tree
		d    api.Dot
		want api.Ctx
		l    []string
	}{
		// An empty tree, and the least and the greatest dots.
		{api.Tree{}, at(0, 1), api.Ctx{sp(0, 1, 1)}, nil},
		{api.Tree{Entries: []api.Entry{}, Kids: []api.Kid{}}, at(1, 4), api.Ctx{sp(1, 4, 4)}, nil},
		{api.Tree{}, at(3, most), api.Ctx{sp(3, most, most)}, nil},
		// Ahead of, behind, beside the tree's dots, and in a gap of them.
		{leaf(en(1, 4, "s")), at(1, 5), api.Ctx{sp(1, 4, 5)}, []string{"s"}},
		{leaf(en(1, 4, "s")), at(1, 3), api.Ctx{sp(1, 3, 4)}, []string{"s"}},
		{leaf(en(1, 4, "s")), at(1, 9), api.Ctx{sp(1, 4, 4), sp(1, 9, 9)}, []string{"s"}},
		{leaf(en(1, 4, "s"), en(1, 6, "")), at(1, 5), api.Ctx{sp(1, 4, 6)}, []string{"", "s"}},
		{leaf(en(2, most-1, "s")), at(2, most), api.Ctx{sp(2, most-1, most)}, []string{"s"}},
		// The same number of another center is another dot.
		{leaf(en(1, 4, "s")), at(0, 4), api.Ctx{sp(0, 4, 4), sp(1, 4, 4)}, []string{"s"}},
		{leaf(en(1, 4, "s")), at(2, 4), api.Ctx{sp(1, 4, 4), sp(2, 4, 4)}, []string{"s"}},
		{leaf(en(0, 1, "b"), en(3, 1, "a")), at(2, 1), api.Ctx{sp(0, 1, 1), sp(2, 1, 1), sp(3, 1, 1)}, []string{"a", "b"}},
		// The empty text is one, and one of several entries is one.
		{leaf(en(0, 1, "")), at(0, 2), api.Ctx{sp(0, 1, 2)}, []string{""}},
		{leaf(en(0, 1, "s"), en(0, 2, "s"), en(1, 1, "s")), at(0, 3), api.Ctx{sp(0, 1, 3), sp(1, 1, 1)}, []string{"s"}},
		{leaf(en(0, 1, ""), en(0, 2, "")), at(0, 4), api.Ctx{sp(0, 1, 2), sp(0, 4, 4)}, []string{""}},
		{leaf(en(0, 1, "b"), en(0, 2, "a"), en(1, 1, "b"), en(1, 2, "a"), en(1, 3, "")), at(1, 4), api.Ctx{sp(0, 1, 2), sp(1, 1, 4)}, []string{"", "a", "b"}},
		// They rise as bytes, whatever the order of the dots.
		{
			leaf(en(0, 1, "\xff"), en(0, 2, "ü"), en(0, 3, "a\x00"), en(0, 4, "a"), en(0, 5, "B"), en(0, 6, "\x00"), en(0, 7, longest)), at(1, 1),
			api.Ctx{sp(0, 1, 7), sp(1, 1, 1)}, []string{"\x00", "B", "a", "a\x00", longest, "ü", "\xff"},
		},
		// What stands below keys isn't the register's.
		{below(leaf(en(0, 2, "s")), "a"), at(0, 1), api.Ctx{sp(0, 1, 1)}, nil},
		{below(leaf(en(0, 2, "s")), "a", "b", "c", longest), at(3, 9), api.Ctx{sp(3, 9, 9)}, nil},
		{both(leaf(en(0, 2, "s")), below(leaf(en(0, 3, "t")), "a")), at(0, 4), api.Ctx{sp(0, 2, 2), sp(0, 4, 4)}, []string{"s"}},
		{both(leaf(en(0, 2, "s")), below(leaf(en(0, 2, "t"), en(1, 1, "u")), "a", "b")), at(1, 2), api.Ctx{sp(0, 2, 2), sp(1, 2, 2)}, []string{"s"}},
		{some(), at(0, 3), api.Ctx{sp(0, 1, 1), sp(0, 3, 3), sp(2, 7, 7)}, []string{"x", "y"}},
		{some(), at(2, 6), api.Ctx{sp(0, 1, 1), sp(2, 6, 7)}, []string{"x", "y"}},
		// Numbers of the entries don't matter.
		{api.Tree{Entries: []api.Entry{{Dot: at(0, 1), S: longest, N: inc}, {Dot: at(0, 2), N: -inc}}}, at(0, 3), api.Ctx{sp(0, 1, 3)}, []string{"", longest}},
		// There is always room for one more.
		{many(24), at(0, 25), api.Ctx{sp(0, 1, 25)}, []string{"a", "b", "c"}},
		{many(25), at(1, 1), api.Ctx{sp(0, 1, 25), sp(1, 1, 1)}, []string{"a", "b", "c"}},
		{many(5000), at(0, 5002), api.Ctx{sp(0, 1, 5000), sp(0, 5002, 5002)}, []string{"a", "b", "c"}},
	}
}

// nothing tells whether c is zero.
func nothing(c api.Causal) bool { return tree.Empty(c.T) && len(c.C) == 0 }

// refused asks whether Write answers ErrArg, and nothing else.
func refused(t *testing.T, what string, x api.Tree, s string, d api.Dot) {
	t.Helper()
	if got, e := register.Write(x, s, d); e != api.ErrArg || !nothing(got) {
		t.Errorf("%s: Write of %q by %v: %v %v", what, s, d, got, e)
	}
}

func TestWrite(t *testing.T) {
	for i, c := range rights() {
		for _, s := range texts() {
			got, e := register.Write(c.t, s, c.d)
			if want := (api.Causal{T: leaf(api.Entry{Dot: c.d, S: s}), C: c.want}); e != api.OK || !causal.Same(got, want) {
				t.Errorf("%d: Write of %q: %v %v, want %v", i, s, got, e, want)
			}
			if l := register.Values(got.T); !slices.Equal(l, []string{s}) {
				t.Errorf("%d: Values are %q, want %q", i, l, s)
			}
		}
	}
}

func TestWriteOfWrongTexts(t *testing.T) {
	for _, c := range rights() {
		for _, s := range wrongTexts() {
			refused(t, "a wrong text", c.t, s, c.d)
		}
	}
}

func TestWriteOfWrongDots(t *testing.T) {
	for _, d := range wrongDots() {
		for _, c := range rights() {
			refused(t, "a wrong dot", c.t, "s", d)
		}
	}
}

func TestOfWrongTrees(t *testing.T) {
	for what, x := range wrongTrees() {
		refused(t, what, x, "s", at(2, 9))
		refused(t, what, x, "", at(2, 9))
		refused(t, what, x, tooLong, at(2, 9))
		refused(t, what, x, "s", api.Dot{})
		if l := register.Values(x); len(l) > 0 {
			t.Errorf("%s: Values: %q", what, l)
		}
	}
}

// A dot that the tree has, at its root or wherever below, names no change of it.
func TestOfDotsThatTheTreeHas(t *testing.T) {
	for _, c := range rights() {
		own, e := tree.Dots(c.t)
		if e != api.OK {
			t.Fatal(c.t, e)
		}
		for _, s := range own {
			for n := s.From; n <= s.To; n += 1 + (s.To-s.From)/32 {
				refused(t, "a dot that is there", c.t, "s", at(s.DC, n))
			}
			refused(t, "the last dot of some", c.t, "s", at(s.DC, s.To))
		}
	}
	for _, path := range [][]string{nil, {"a"}, {"a", "b"}, {"a", "b", "c", "d"}} {
		refused(t, "alone", below(leaf(en(0, 1, "s")), path...), "s", at(0, 1))
		refused(t, "among others", below(leaf(en(0, 1, "s"), en(1, 3, "s"), en(3, most, "s")), path...), "s", at(1, 3))
		refused(t, "the last one", below(leaf(en(0, 1, "s"), en(1, 3, "s"), en(3, most, "s")), path...), "s", at(3, most))
	}
}

func TestValues(t *testing.T) {
	for i, c := range rights() {
		if got := register.Values(c.t); !slices.Equal(got, c.l) {
			t.Errorf("%d: Values: %q, want %q", i, got, c.l)
		}
	}
	// Of many texts, each twice, those of the first half in order, those of the second one falling.
	const n = 1 << 14
	var x api.Tree
	var want []string
	for i := range int64(n) {
		x.Entries = append(x.Entries, en(1, i+1, string([]byte{byte(i >> 8), byte(i)})))
		want = append(want, string([]byte{byte(i >> 8), byte(i)}))
	}
	for i := int64(n) - 1; i >= 0; i-- {
		x.Entries = append(x.Entries, en(2, n-i, string([]byte{byte(i >> 8), byte(i)})))
	}
	if got := register.Values(x); !slices.Equal(got, want) {
		t.Error(len(got))
	}
}

// join answers all of l joined.
func join(t *testing.T, l ...api.Causal) api.Causal {
	t.Helper()
	c, e := causal.JoinAll(l...)
	if e != api.OK {
		t.Fatal(l, e)
	}
	return c
}

// unseen answers t without the entries of the dots of c, and without the kids that are empty then.
func unseen(t api.Tree, c api.Ctx) api.Tree {
	var u api.Tree
	for _, e := range t.Entries {
		if !context.Has(c, e.Dot) {
			u.Entries = append(u.Entries, e)
		}
	}
	for _, k := range t.Kids {
		if x := unseen(k.T, c); !tree.Empty(x) {
			u.Kids = append(u.Kids, api.Kid{Key: k.Key, T: x})
		}
	}
	return u
}

// Joined to the tree, once or again, s stands there alone, and what is below its keys is as it was.
func TestJoined(t *testing.T) {
	for i, c := range rights() {
		own, _ := tree.Dots(c.t)
		ground := api.Causal{T: c.t, C: own}
		for _, s := range texts() {
			d, _ := register.Write(c.t, s, c.d)
			want := api.Causal{T: both(leaf(en(c.d.DC, c.d.N, s)), unseen(c.t, c.want)), C: context.Union(own, c.want)}
			for _, got := range []api.Causal{join(t, ground, d), join(t, d, ground), join(t, ground, d, ground, d)} {
				if !causal.Same(got, want) || !slices.Equal(register.Values(got.T), []string{s}) {
					t.Errorf("%d: Write of %q: %v, want %v", i, s, got, want)
				}
			}
		}
	}
	// No dot of its root is one of those below, in some: all these stay.
	d, _ := register.Write(some(), "s", at(0, 3))
	own, _ := tree.Dots(some())
	if got := join(t, api.Causal{T: some(), C: own}, d); !tree.Same(got.T, both(leaf(en(0, 3, "s")), some())) {
		t.Error(got)
	}
}

// Of what is written beside one another both stand there; what is written while all is taken away elsewhere stays alone.
func TestBesideOneAnother(t *testing.T) {
	for i, c := range rights() {
		own, _ := tree.Dots(c.t)
		ground := api.Causal{T: c.t, C: own}
		// Other dots that the tree hasn't.
		other, third := at((c.d.DC+1)%api.MaxDC, 6000), at((c.d.DC+2)%api.MaxDC, 6000)
		z, g := flag.Disable(c.t, third)
		for _, s := range []string{"", "a", "b", longest} {
			x, e := register.Write(c.t, "b", c.d)
			y, f := register.Write(c.t, s, other)
			if e != api.OK || f != api.OK || g != api.OK {
				t.Fatal(i, e, f, g)
			}
			want := []string{min(s, "b"), max(s, "b")}
			if s == "b" {
				want = want[:1]
			}
			for _, got := range []api.Causal{join(t, ground, x, y), join(t, y, x, ground), join(t, join(t, ground, y), join(t, ground, x)), join(t, x, y)} {
				if !slices.Equal(register.Values(got.T), want) || len(got.T.Entries) != 2 {
					t.Errorf("%d: %v, want %q", i, got, want)
				}
			}
			for _, got := range []api.Causal{join(t, ground, y, z), join(t, z, y), join(t, join(t, ground, z), join(t, ground, y))} {
				if !slices.Equal(register.Values(got.T), []string{s}) || len(got.T.Kids) > 0 {
					t.Errorf("%d: %v, want %q alone", i, got, s)
				}
			}
			// Who has seen both writes over both.
			w, e := register.Write(join(t, ground, x, y).T, "z", third)
			if got := join(t, x, w, ground, y); e != api.OK || !slices.Equal(register.Values(got.T), []string{"z"}) {
				t.Errorf("%d: %v %v, want z", i, got, e)
			}
		}
	}
}

// Four changes, each upon what the deltas of some of those ahead of it make: there stands what no other one had seen.
func TestAllWaysOfFour(t *testing.T) {
	const n = 4
	written := [n]string{"c", "", "a", "c"}
	for bits := range 1 << (n * (n - 1) / 2) {
		var deltas [n]api.Causal
		var over [n]bool
		rest := bits
		for j := range n {
			var l []api.Causal
			for i := range j {
				if rest&1 == 1 {
					l, over[i] = append(l, deltas[i]), true
				}
				rest >>= 1
			}
			d, e := register.Write(join(t, l...).T, written[j], at(j%3, int64(1+j/3)))
			if e != api.OK {
				t.Fatal(bits, j, e)
			}
			deltas[j] = d
		}
		var want []string
		entries := 0
		for i := range n {
			if !over[i] {
				want, entries = append(want, written[i]), entries+1
			}
		}
		slices.Sort(want)
		want = slices.Compact(want)
		got := join(t, deltas[:]...)
		if !slices.Equal(register.Values(got.T), want) || len(got.T.Entries) != entries {
			t.Fatalf("%b: %v, want %q", bits, got, want)
		}
	}
}

// roomy answers t with spare room, in which something stands, behind each of its lists.
func roomy(t api.Tree) api.Tree {
	var y api.Tree
	n, m := len(t.Entries), len(t.Kids)
	y.Entries = append(slices.Clone(t.Entries), api.Entry{S: "spare"}, api.Entry{S: "spare"})[:n]
	for _, k := range t.Kids {
		y.Kids = append(y.Kids, api.Kid{Key: k.Key, T: roomy(k.T)})
	}
	y.Kids = append(y.Kids, api.Kid{Key: "spare"}, api.Kid{Key: "spare"})[:m]
	return y
}

// intact tells whether y is t as roomy made it.
func intact(t, y api.Tree) bool {
	n, m := len(t.Entries), len(t.Kids)
	if !slices.Equal(y.Entries, t.Entries) || !slices.Equal(y.Entries[n:n+2], []api.Entry{{S: "spare"}, {S: "spare"}}) {
		return false
	}
	for _, k := range y.Kids[m : m+2] {
		if k.Key != "spare" || !tree.Empty(k.T) {
			return false
		}
	}
	return slices.EqualFunc(t.Kids, y.Kids, func(a, b api.Kid) bool { return a.Key == b.Key && intact(a.T, b.T) })
}

// What is handed in stays as it is, its spare room too, and what is answered is new memory.
func TestAnswersStandAlone(t *testing.T) {
	for i, c := range rights() {
		x := roomy(c.t)
		for range 2 {
			got, e := register.Write(x, "s", c.d)
			if e != api.OK || !causal.Same(got, api.Causal{T: leaf(en(c.d.DC, c.d.N, "s")), C: c.want}) {
				t.Fatalf("%d: Write, perhaps again: %v %v", i, got, e)
			}
			clear(got.T.Entries[:cap(got.T.Entries)])
			clear(got.T.Kids[:cap(got.T.Kids)])
			clear(got.C[:cap(got.C)])
			l := register.Values(x)
			if !slices.Equal(l, c.l) {
				t.Errorf("%d: Values, perhaps again: %q", i, l)
			}
			clear(l[:cap(l)])
		}
		if !intact(c.t, x) {
			t.Errorf("%d: what was handed in, or its spare room, is changed: %v", i, x)
		}
	}
}
