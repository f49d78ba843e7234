package op_test

import (
	"math"
	"slices"
	"strings"
	"testing"

	"tributary/api"
	"tributary/causal"
	"tributary/context"
	"tributary/op"
	"tributary/tree"
)

const (
	most = int64(api.MaxDot)
	inc  = int64(api.MaxInc)
)

// longest and tooLong are texts of MaxText bytes, and of one more.
var (
	longest = strings.Repeat("x", api.MaxText)
	tooLong = longest + "x"
)

// at makes a dot.
func at(dc int, n int64) api.Dot { return api.Dot{DC: dc, N: n} }

// leaf makes a tree of entries of these dots alone.
func leaf(l ...api.Dot) api.Tree {
	var t api.Tree
	for _, d := range l {
		t.Entries = append(t.Entries, api.Entry{Dot: d})
	}
	return t
}

// text and number make an entry of d with a text, or with a number.
func text(d api.Dot, s string) api.Entry  { return api.Entry{Dot: d, S: s} }
func number(d api.Dot, n int64) api.Entry { return api.Entry{Dot: d, N: n} }

// of makes a tree of these entries alone.
func of(l ...api.Entry) api.Tree { return api.Tree{Entries: l} }

// kid makes a kid, and with makes a tree of these kids alone.
func kid(key string, t api.Tree) api.Kid { return api.Kid{Key: key, T: t} }
func with(l ...api.Kid) api.Tree         { return api.Tree{Kids: l} }

// both makes a tree of the entries of a, and the kids of b.
func both(a, b api.Tree) api.Tree { return api.Tree{Entries: a.Entries, Kids: b.Kids} }

// below makes a tree of that path alone, at whose end is t; an empty one, if t is.
func below(t api.Tree, path ...string) api.Tree {
	if tree.Empty(t) {
		return t
	}
	for _, key := range slices.Backward(path) {
		t = with(kid(key, t))
	}
	return t
}

// many makes a tree of n kids, their keys from first+"00" on, each of one entry by center 2.
func many(first string, n int) api.Tree {
	var t api.Tree
	for i := range n {
		t.Kids = append(t.Kids, kid(first+string([]byte{'0' + byte(i/10), '0' + byte(i%10)}), leaf(at(2, int64(i+1)))))
	}
	return t
}

// entries makes a tree of n entries by center 2.
func entries(n int) api.Tree {
	var t api.Tree
	for i := range int64(n) {
		t.Entries = append(t.Entries, number(at(2, i+1), 1))
	}
	return t
}

// path makes a path.
func path(l ...string) []string { return l }

// store is a tree of each kind at each of three levels; it has entries at its root, and keys of no kind. It hasn't the dots from {3, 2} to {3, 8}.
func store() api.Tree {
	m2 := with(
		kid("c", of(number(at(2, 2), inc))),
		kid("f", leaf(at(2, 3))),
		kid("r", of(text(at(2, 4), "z"), text(at(2, 5), "y"))),
		kid("s", with(kid("e", leaf(at(2, 6), at(2, 7))))),
	)
	m := with(
		kid("c", of(number(at(1, 2), 1))),
		kid("f", leaf(at(1, 3))),
		kid("m2", m2),
		kid("r", of(text(at(1, 4), ""))),
		kid("s", with(kid("a", leaf(at(1, 5))), kid("b", leaf(at(1, 6))))),
		kid("x", leaf(at(1, 9))),
	)
	return both(leaf(at(3, 9)), with(
		kid("c", of(number(at(0, 1), 5), number(at(1, 1), -7))),
		kid("f", leaf(at(0, 2), at(2, 1))),
		kid("m", m),
		kid("r", of(text(at(0, 4), "b"), text(at(0, 5), "a"), text(at(1, 7), "b"))),
		kid("s", with(kid("a", leaf(at(0, 6))), kid("b", leaf(at(0, 7), at(1, 8))))),
		kid("x", leaf(at(3, 1))),
	))
}

// odd is a right tree that no changes make: at each key stand entries as well as kids. It hasn't the dots of center 3.
func odd() api.Tree {
	return with(
		kid("c", both(of(number(at(0, 1), 2), number(at(0, 2), 3)), below(of(number(at(0, 3), 4)), "k"))),
		kid("c2", below(of(number(at(0, 4), 4)), "k")),
		kid("f", both(leaf(at(1, 1)), below(leaf(at(1, 2)), "k"))),
		kid("f2", below(leaf(at(1, 3)), "k")),
		kid("m", both(leaf(at(1, 4)), with(kid("\x00", leaf(at(1, 5))), kid("f", below(leaf(at(1, 6)), "k"))))),
		kid("m2", leaf(at(1, 7))),
		kid("r", both(of(text(at(2, 1), "b")), below(of(text(at(2, 2), "a")), "k"))),
		kid("r2", below(of(text(at(2, 3), "a")), "k")),
		kid("s", both(leaf(at(2, 4)), with(kid("a", both(leaf(at(2, 5)), below(leaf(at(2, 6)), "k"))), kid("b", below(leaf(at(2, 7)), "k"))))),
		kid("s2", leaf(at(2, 8))),
	)
}

// wrongTrees answers trees that aren't right, each for one cause. None of them has {3, 2}.
func wrongTrees() map[string]api.Tree {
	f := kid("f", leaf(at(0, 1)))
	m := map[string]api.Tree{
		"the zero entry":        both(leaf(api.Dot{}), with(f)),
		"a dot above MaxDot":    leaf(at(0, most+1)),
		"no center":             leaf(at(api.MaxDC, 1)),
		"the dots fall":         leaf(at(1, 1), at(0, 1)),
		"one dot twice":         leaf(at(0, 1), at(0, 1)),
		"a text too long":       of(text(at(0, 1), tooLong)),
		"a number above MaxInc": of(number(at(0, 1), inc+1)),
		"a number too low":      of(number(at(0, 1), -inc-1)),
		"no key":                with(kid("", f.T), f),
		"a key too long":        with(kid(tooLong, f.T)),
		"one key twice":         with(f, f),
		"the keys fall":         with(f, kid("c", f.T)),
		"an empty kid":          with(f, kid("s", api.Tree{})),
		"a wrong kid":           with(f, kid("s", leaf(api.Dot{}))),
		"six levels":            below(f.T, "m", "m", "m", "m", "m"),
		"far too deep":          below(f.T, strings.Split(strings.Repeat("m", 1<<16), "")...),
	}
	// A tree of itself has no end.
	round := []api.Kid{kid("m", f.T)}
	round[0].T.Kids = round
	m["its own kid"] = with(round...)
	return m
}

// wrongDots answers dots that aren't right.
func wrongDots() []api.Dot {
	return []api.Dot{{}, at(3, 0), at(0, -1), at(1, math.MinInt64), at(0, most+1), at(3, math.MaxInt64), at(-1, 1), at(api.MaxDC, 1), at(math.MinInt, 1), at(math.MaxInt, most)}
}

// dots answers the context of these dots.
func dots(t *testing.T, l ...api.Dot) api.Ctx {
	t.Helper()
	c, e := context.Of(l...)
	if e != api.OK {
		t.Fatal(l, e)
	}
	return c
}

// refused asks whether Apply answers that error, and nothing else.
func refused(t *testing.T, what string, x api.Tree, o api.Op, d api.Dot, want api.Errno) {
	t.Helper()
	if got, e := op.Apply(x, o, d); e != want || !tree.Empty(got.T) || len(got.C) > 0 {
		t.Errorf("%s: Apply of %v by %v: %v %v, want %v", what, o, d, got, e, want)
	}
}

// unread asks whether Read answers that error, and nothing else.
func unread(t *testing.T, what string, x api.Tree, l []string, want api.Errno) {
	t.Helper()
	if got, e := op.Read(x, l...); e != want || !op.Same(got, api.View{}) {
		t.Errorf("%s: Read of %q: %v %v, want %v", what, l, got, e, want)
	}
}

// kindOf has of keys of all kinds, and of those that may not be, what they are of; 0 of those that may not.
func kindOf() map[string]int {
	return map[string]int{
		"f": 1, "f\x00": 1, "s1": 2, "c" + longest[1:]: 3, "r\xff": 4, "m": 5, "mfscr": 5, "m" + longest[1:]: 5,
		"": 0, "x": 0, "xm": 0, "F": 0, "\x00": 0, "ü": 0, "m" + longest: 0, "f" + longest: 0,
	}
}

func TestActs(t *testing.T) {
	if l := []int{op.Enable, op.Disable, op.Add, op.Del, op.Inc, op.Write, op.Reset}; !slices.Equal(l, []int{1, 2, 3, 4, 5, 6, 7}) {
		t.Error(l)
	}
}

// A key's first byte alone tells, of whatever length it is.
func TestKind(t *testing.T) {
	for b := range 256 {
		want := map[byte]int{'f': 1, 's': 2, 'c': 3, 'r': 4, 'm': 5}[byte(b)]
		for _, more := range []string{"", "f", "s1", "\x00", "ü", longest, strings.Repeat("m", 1<<16)} {
			if key := string([]byte{byte(b)}) + more; op.Kind(key) != want {
				t.Errorf("%q: %d, want %d", key, op.Kind(key), want)
			}
		}
	}
	if got := op.Kind(""); got != 0 {
		t.Error(got)
	}
}

// paths answers all paths of 0 to 4 of the keys of kindOf.
func paths() [][]string {
	all := [][]string{nil}
	last := all
	for range 4 {
		var next [][]string
		for _, l := range last {
			for key := range kindOf() {
				next = append(next, append(slices.Clone(l), key))
			}
		}
		all = append(all, next...)
		last = next
	}
	return all
}

// wantPath is what is to be answered of a path: how many keys there are, whether each may be, and only then whether maps are ahead.
func wantPath(l []string, kinds map[string]int) api.Errno {
	if len(l) == 0 || len(l) > 3 {
		return api.ErrArg
	}
	for _, key := range l {
		if kinds[key] == 0 {
			return api.ErrArg
		}
	}
	for _, key := range l[:len(l)-1] {
		if kinds[key] != 5 {
			return api.ErrKind
		}
	}
	return api.OK
}

func TestPaths(t *testing.T) {
	kinds := kindOf()
	d := at(3, 2)
	for _, l := range paths() {
		want := wantPath(l, kinds)
		o := api.Op{Path: l, Act: op.Reset}
		if op.RightPath(l...) != (want == api.OK) || op.Right(o) != (want == api.OK) {
			t.Errorf("%q: RightPath %v, Right %v, want %v", l, op.RightPath(l...), op.Right(o), want)
		}
		if want != api.OK {
			unread(t, "a path", api.Tree{}, l, want)
			refused(t, "a path", api.Tree{}, o, d, want)
			// What is of no kind's Act, or of another S or N, isn't asked ahead of the path; nor is the dot.
			refused(t, "a path, and all else", api.Tree{}, api.Op{Path: l, Act: 99, S: tooLong, N: inc + 1}, api.Dot{}, want)
			continue
		}
		if v, e := op.Read(api.Tree{}, l...); e != api.OK || !op.Same(v, api.View{Kind: kinds[l[len(l)-1]]}) {
			t.Errorf("%q: Read: %v %v", l, v, e)
		}
		if got, e := op.Apply(api.Tree{}, o, d); e != api.OK || !tree.Empty(got.T) || !slices.Equal(got.C, dots(t, d)) {
			t.Errorf("%q: Apply: %v %v", l, got, e)
		}
	}
	far := slices.Repeat(path("m"), 1<<20)
	if op.RightPath(far...) || op.Right(api.Op{Path: far, Act: op.Reset}) {
		t.Error("far too many keys")
	}
	refused(t, "far too many keys", store(), api.Op{Path: far, Act: op.Reset}, d, api.ErrArg)
	unread(t, "far too many keys", store(), far, api.ErrArg)
}

// rule is which S and N a change of that Act may have, of a key of that first byte.
type rule struct {
	act int
	key string
	s   []string
	n   []int64
}

// rules answers those of all Acts, as far as the test's texts and numbers go.
func rules() []rule {
	some, none, nought := []string{"", "a", longest}, []string{""}, []int64{0}
	l := []rule{
		{1, "f", none, nought}, {2, "f", none, nought},
		{3, "s", some[1:], nought}, {4, "s", some[1:], nought},
		{5, "c", none, []int64{-inc, -1, 0, 1, inc}},
		{6, "r", some, nought},
	}
	for _, key := range []string{"f", "s", "c", "r", "m"} {
		l = append(l, rule{7, key, none, nought})
	}
	return l
}

func TestActsOfKinds(t *testing.T) {
	texts := []string{"", "a", longest, tooLong, strings.Repeat("a", 1<<16)}
	numbers := []int64{-inc, -1, 0, 1, inc, -inc - 1, inc + 1, math.MinInt64, math.MaxInt64}
	acts := []int{math.MinInt, -1, 0, 1, 2, 3, 4, 5, 6, 7, 8, 9, 257, math.MaxInt}
	all := rules()
	want := func(o api.Op, key string) api.Errno {
		at := slices.IndexFunc(all, func(r rule) bool { return r.act == o.Act && r.key == key })
		switch {
		case at < 0:
			return api.ErrKind
		case !slices.Contains(all[at].s, o.S) || !slices.Contains(all[at].n, o.N):
			return api.ErrArg
		}
		return api.OK
	}
	for _, key := range []string{"f", "s", "c", "r", "m"} {
		for _, act := range acts {
			for _, s := range texts {
				for _, n := range numbers {
					for _, l := range [][]string{path(key), path("m", key), path("m", "m2", key+longest[1:])} {
						o := api.Op{Path: l, Act: act, S: s, N: n}
						e := want(o, key)
						if op.Right(o) != (e == api.OK) {
							t.Errorf("Right of %v: %v, want %v", o, op.Right(o), e)
						}
						if e != api.OK {
							refused(t, "an act", api.Tree{}, o, at(3, 2), e)
							refused(t, "an act, and a wrong dot", store(), o, at(3, 9), e)
						} else if _, got := op.Apply(api.Tree{}, o, at(3, 2)); got != api.OK {
							t.Errorf("Apply of %v: %v", o, got)
						}
					}
				}
			}
		}
	}
}

// change is a change of a tree, and what its delta is to be: what stands at the path, and the dots beside the change's own.
type change struct {
	o    api.Op
	want api.Tree
	dots []api.Dot
}

// changes answers such of store, by the dot d.
func changes(d api.Dot) []change {
	m2 := []api.Dot{at(2, 2), at(2, 3), at(2, 4), at(2, 5), at(2, 6), at(2, 7)}
	m := append(slices.Clone(m2), at(1, 2), at(1, 3), at(1, 4), at(1, 5), at(1, 6), at(1, 9))
	return []change{
		{api.Op{Path: path("f"), Act: op.Enable}, leaf(d), []api.Dot{at(0, 2), at(2, 1)}},
		{api.Op{Path: path("f"), Act: op.Disable}, api.Tree{}, []api.Dot{at(0, 2), at(2, 1)}},
		{api.Op{Path: path("f"), Act: op.Reset}, api.Tree{}, []api.Dot{at(0, 2), at(2, 1)}},
		{api.Op{Path: path("s"), Act: op.Add, S: "b"}, below(leaf(d), "b"), []api.Dot{at(0, 7), at(1, 8)}},
		{api.Op{Path: path("s"), Act: op.Add, S: "e"}, below(leaf(d), "e"), nil},
		{api.Op{Path: path("s"), Act: op.Del, S: "b"}, api.Tree{}, []api.Dot{at(0, 7), at(1, 8)}},
		{api.Op{Path: path("s"), Act: op.Del, S: "e"}, api.Tree{}, nil},
		{api.Op{Path: path("s"), Act: op.Reset}, api.Tree{}, []api.Dot{at(0, 6), at(0, 7), at(1, 8)}},
		{api.Op{Path: path("c"), Act: op.Inc, N: -4}, of(number(d, -4)), nil},
		{api.Op{Path: path("c"), Act: op.Inc}, of(number(d, 0)), nil},
		{api.Op{Path: path("c"), Act: op.Reset}, api.Tree{}, []api.Dot{at(0, 1), at(1, 1)}},
		{api.Op{Path: path("r"), Act: op.Write, S: "v"}, of(text(d, "v")), []api.Dot{at(0, 4), at(0, 5), at(1, 7)}},
		{api.Op{Path: path("r"), Act: op.Write}, leaf(d), []api.Dot{at(0, 4), at(0, 5), at(1, 7)}},
		{api.Op{Path: path("r"), Act: op.Reset}, api.Tree{}, []api.Dot{at(0, 4), at(0, 5), at(1, 7)}},
		{api.Op{Path: path("m"), Act: op.Reset}, api.Tree{}, m},
		// Below a map, and below two.
		{api.Op{Path: path("m", "f"), Act: op.Enable}, leaf(d), []api.Dot{at(1, 3)}},
		{api.Op{Path: path("m", "s"), Act: op.Add, S: "a"}, below(leaf(d), "a"), []api.Dot{at(1, 5)}},
		{api.Op{Path: path("m", "s"), Act: op.Reset}, api.Tree{}, []api.Dot{at(1, 5), at(1, 6)}},
		{api.Op{Path: path("m", "c"), Act: op.Inc, N: inc}, of(number(d, inc)), nil},
		{api.Op{Path: path("m", "r"), Act: op.Write, S: longest}, of(text(d, longest)), []api.Dot{at(1, 4)}},
		{api.Op{Path: path("m", "m2"), Act: op.Reset}, api.Tree{}, m2},
		{api.Op{Path: path("m", "m2", "f"), Act: op.Enable}, leaf(d), []api.Dot{at(2, 3)}},
		{api.Op{Path: path("m", "m2", "f"), Act: op.Disable}, api.Tree{}, []api.Dot{at(2, 3)}},
		{api.Op{Path: path("m", "m2", "s"), Act: op.Add, S: "e"}, below(leaf(d), "e"), []api.Dot{at(2, 6), at(2, 7)}},
		{api.Op{Path: path("m", "m2", "s"), Act: op.Add, S: longest}, below(leaf(d), longest), nil},
		{api.Op{Path: path("m", "m2", "s"), Act: op.Del, S: "e"}, api.Tree{}, []api.Dot{at(2, 6), at(2, 7)}},
		{api.Op{Path: path("m", "m2", "c"), Act: op.Inc, N: -inc}, of(number(d, -inc)), nil},
		{api.Op{Path: path("m", "m2", "r"), Act: op.Write, S: "y"}, of(text(d, "y")), []api.Dot{at(2, 4), at(2, 5)}},
		// Where nothing stands, at the path's end or on its way.
		{api.Op{Path: path("f2"), Act: op.Enable}, leaf(d), nil},
		{api.Op{Path: path("f2"), Act: op.Disable}, api.Tree{}, nil},
		{api.Op{Path: path("r2"), Act: op.Write, S: "v"}, of(text(d, "v")), nil},
		{api.Op{Path: path("c2"), Act: op.Inc, N: 7}, of(number(d, 7)), nil},
		{api.Op{Path: path("m2"), Act: op.Reset}, api.Tree{}, nil},
		{api.Op{Path: path("m", "m"), Act: op.Reset}, api.Tree{}, nil},
		{api.Op{Path: path("m2", "m2", "s"), Act: op.Add, S: "e"}, below(leaf(d), "e"), nil},
		{api.Op{Path: path("m", "m"+longest[1:], "f\x00\xff"), Act: op.Enable}, leaf(d), nil},
		{api.Op{Path: path("m", "m2", "m"), Act: op.Reset}, api.Tree{}, nil},
	}
}

// oddChanges answers such of odd, by the dot d.
func oddChanges(d api.Dot) []change {
	return []change{
		// A flag, and what is reset, goes with all that it has; a counter stays; of a register its own entries go; of a set what the text has.
		{api.Op{Path: path("f"), Act: op.Enable}, leaf(d), []api.Dot{at(1, 1), at(1, 2)}},
		{api.Op{Path: path("f2"), Act: op.Disable}, api.Tree{}, []api.Dot{at(1, 3)}},
		{api.Op{Path: path("c"), Act: op.Inc, N: 1}, of(number(d, 1)), nil},
		{api.Op{Path: path("c"), Act: op.Reset}, api.Tree{}, []api.Dot{at(0, 1), at(0, 2), at(0, 3)}},
		{api.Op{Path: path("r"), Act: op.Write, S: "v"}, of(text(d, "v")), []api.Dot{at(2, 1)}},
		{api.Op{Path: path("r2"), Act: op.Write, S: "v"}, of(text(d, "v")), nil},
		{api.Op{Path: path("r"), Act: op.Reset}, api.Tree{}, []api.Dot{at(2, 1), at(2, 2)}},
		{api.Op{Path: path("s"), Act: op.Add, S: "a"}, below(leaf(d), "a"), []api.Dot{at(2, 5), at(2, 6)}},
		{api.Op{Path: path("s"), Act: op.Del, S: "b"}, api.Tree{}, []api.Dot{at(2, 7)}},
		{api.Op{Path: path("s"), Act: op.Reset}, api.Tree{}, []api.Dot{at(2, 4), at(2, 5), at(2, 6), at(2, 7)}},
		{api.Op{Path: path("m"), Act: op.Reset}, api.Tree{}, []api.Dot{at(1, 4), at(1, 5), at(1, 6)}},
		{api.Op{Path: path("m", "f"), Act: op.Enable}, leaf(d), []api.Dot{at(1, 6)}},
		{api.Op{Path: path("m2", "f"), Act: op.Enable}, leaf(d), nil},
		// A set's texts aren't of kinds, nor are they asked for them.
		{api.Op{Path: path("s2"), Act: op.Add, S: "\x00"}, below(leaf(d), "\x00"), nil},
	}
}

func TestApply(t *testing.T) {
	for what, c := range map[string]struct {
		x       api.Tree
		changes func(d api.Dot) []change
	}{"store": {store(), changes}, "odd": {odd(), oddChanges}} {
		for _, d := range []api.Dot{at(3, 2), at(3, 8), at(3, most), at(0, most)} {
			for _, w := range c.changes(d) {
				want := api.Causal{T: below(w.want, w.o.Path...), C: dots(t, append(w.dots, d)...)}
				if got, e := op.Apply(c.x, w.o, d); e != api.OK || !causal.Same(got, want) || !op.Right(w.o) {
					t.Errorf("%s: %v by %v: %v %v, want %v", what, w.o, d, got, e, want)
				}
			}
		}
	}
}

// The dot is one that the whole tree hasn't, at whatever place.
func TestApplyOfWrongDots(t *testing.T) {
	for _, x := range []api.Tree{store(), odd()} {
		own, e := tree.Dots(x)
		if e != api.OK {
			t.Fatal(e)
		}
		l := wrongDots()
		for _, s := range own {
			for n := s.From; n <= s.To; n++ {
				l = append(l, at(s.DC, n))
			}
		}
		for _, d := range l {
			for _, w := range changes(d) {
				refused(t, "a wrong dot", x, w.o, d, api.ErrArg)
			}
		}
	}
}

func TestOfWrongTrees(t *testing.T) {
	for what, x := range wrongTrees() {
		for _, w := range changes(at(3, 2)) {
			refused(t, what, x, w.o, at(3, 2), api.ErrArg)
			unread(t, what, x, w.o.Path, api.ErrArg)
		}
		// The tree is asked ahead of the kinds.
		refused(t, what+", and no map", x, api.Op{Path: path("f", "f"), Act: op.Enable}, at(3, 2), api.ErrArg)
		refused(t, what+", and another act", x, api.Op{Path: path("f"), Act: op.Inc}, at(3, 2), api.ErrArg)
		unread(t, what+", and no map", x, path("f", "f"), api.ErrArg)
	}
}

// Keys have room for MaxKids at each level, a set for as many texts, a counter for MaxEntries; what is there has room, and nothing takes none.
func TestFull(t *testing.T) {
	for _, way := range [][]string{nil, path("m"), path("m", "m2")} {
		for _, n := range []int{22, 23, 24, 25, 40} {
			full := api.OK
			if n >= 24 {
				full = api.ErrFull
			}
			ask := func(x api.Tree, want api.Errno, o api.Op, more ...string) {
				t.Helper()
				o.Path = slices.Concat(way, more)
				if got, e := op.Apply(x, o, at(3, 2)); e != want || (e == api.OK) != (len(got.C) > 0) || e != api.OK && !tree.Empty(got.T) {
					t.Errorf("%d: %v: %v %v, want %v", n, o, got, e, want)
				}
			}
			x := below(many("f", n), way...)
			ask(x, full, api.Op{Act: op.Enable}, "f")
			ask(x, api.OK, api.Op{Act: op.Disable}, "f")
			ask(x, api.OK, api.Op{Act: op.Reset}, "f")
			ask(x, api.OK, api.Op{Act: op.Enable}, "f21")
			ask(x, full, api.Op{Act: op.Inc}, "c")
			ask(x, full, api.Op{Act: op.Write}, "r")
			ask(x, full, api.Op{Act: op.Add, S: "f21"}, "s")
			ask(x, api.OK, api.Op{Act: op.Del, S: "f21"}, "s")
			if len(way) < 2 {
				// A new map takes room, too, if something is put below it.
				ask(x, full, api.Op{Act: op.Enable}, "m3", "f21")
				ask(x, api.OK, api.Op{Act: op.Disable}, "m3", "f21")
				there := with(append(many("f", n-1).Kids, kid("m3", leaf(at(1, 1))))...)
				ask(below(there, way...), api.OK, api.Op{Act: op.Enable}, "m3", "f21")
			}
			x = below(many("e", n), append(slices.Clone(way), "s")...)
			ask(x, full, api.Op{Act: op.Add, S: "e"}, "s")
			ask(x, api.OK, api.Op{Act: op.Add, S: "e21"}, "s")
			ask(x, api.OK, api.Op{Act: op.Del, S: "e"}, "s")
			ask(x, api.OK, api.Op{Act: op.Reset}, "s")
			ask(x, api.OK, api.Op{Act: op.Add, S: "e"}, "s2")
			x = below(with(kid("c", entries(n)), kid("f", entries(n)), kid("r", entries(n))), way...)
			ask(x, full, api.Op{Act: op.Inc, N: 1}, "c")
			ask(x, api.OK, api.Op{Act: op.Reset}, "c")
			ask(x, api.OK, api.Op{Act: op.Inc, N: 1}, "c2")
			ask(x, api.OK, api.Op{Act: op.Enable}, "f")
			ask(x, api.OK, api.Op{Act: op.Write}, "r")
		}
	}
}

// The room, at whatever key, is asked behind all else.
func TestFullBehindAllElse(t *testing.T) {
	x := with(append(many("f", 23).Kids, kid("m", many("f", 24)), kid("s", many("e", 24)))...)
	x.Kids[0].T = leaf(at(1, 1))
	d := at(3, 2)
	for _, o := range []api.Op{
		{Path: path("f"), Act: op.Enable},
		{Path: path("m", "f"), Act: op.Enable},
		{Path: path("m", "m", "c"), Act: op.Inc},
		{Path: path("s"), Act: op.Add, S: "e"},
		{Path: path("m2", "f"), Act: op.Enable},
	} {
		refused(t, "full", x, o, d, api.ErrFull)
		refused(t, "full, and a dot that is there", x, o, at(2, 1), api.ErrArg)
		refused(t, "full, and a wrong dot", x, o, api.Dot{}, api.ErrArg)
		s, n := o, o
		s.S, n.N = tooLong, inc+1
		refused(t, "full, and a wrong S", x, s, d, api.ErrArg)
		refused(t, "full, and a wrong N", x, n, d, api.ErrArg)
		o.Act = op.Write
		refused(t, "full, and another act", x, o, api.Dot{}, api.ErrKind)
	}
	// A full root has no room for a new map, but for what stands below those that it has.
	refused(t, "a full root", many("f", 24), api.Op{Path: path("m", "m", "f"), Act: op.Enable}, d, api.ErrFull)
	if _, e := op.Apply(x, api.Op{Path: path("m", "f00"), Act: op.Enable}, d); e != api.OK {
		t.Error(e)
	}
}

func TestRead(t *testing.T) {
	for i, c := range []struct {
		x    api.Tree
		path []string
		want api.View
	}{
		{store(), path("f"), api.View{Kind: 1, On: true}},
		{store(), path("s"), api.View{Kind: 2, L: []string{"a", "b"}}},
		{store(), path("c"), api.View{Kind: 3, N: -2}},
		{store(), path("r"), api.View{Kind: 4, L: []string{"a", "b"}}},
		{store(), path("m"), api.View{Kind: 5, L: []string{"c", "f", "m2", "r", "s", "x"}}},
		{store(), path("m", "f"), api.View{Kind: 1, On: true}},
		{store(), path("m", "s"), api.View{Kind: 2, L: []string{"a", "b"}}},
		{store(), path("m", "c"), api.View{Kind: 3, N: 1}},
		{store(), path("m", "r"), api.View{Kind: 4, L: []string{""}}},
		{store(), path("m", "m2"), api.View{Kind: 5, L: []string{"c", "f", "r", "s"}}},
		{store(), path("m", "m2", "f"), api.View{Kind: 1, On: true}},
		{store(), path("m", "m2", "s"), api.View{Kind: 2, L: []string{"e"}}},
		{store(), path("m", "m2", "c"), api.View{Kind: 3, N: inc}},
		{store(), path("m", "m2", "r"), api.View{Kind: 4, L: []string{"y", "z"}}},
		// What isn't there, at the path's end or on its way.
		{store(), path("f2"), api.View{Kind: 1}},
		{store(), path("s\x00"), api.View{Kind: 2}},
		{store(), path("m", "c2"), api.View{Kind: 3}},
		{store(), path("m", "m2", "r2"), api.View{Kind: 4}},
		{store(), path("m", "m2", "m"), api.View{Kind: 5}},
		{store(), path("m2", "f"), api.View{Kind: 1}},
		{store(), path("m2", "m2", "s"), api.View{Kind: 2}},
		{api.Tree{}, path("m"), api.View{Kind: 5}},
		// Own entries tell of all but sets and maps; of a set's texts theirs do, of a map's keys none.
		{odd(), path("f"), api.View{Kind: 1, On: true}},
		{odd(), path("f2"), api.View{Kind: 1}},
		{odd(), path("c"), api.View{Kind: 3, N: 5}},
		{odd(), path("c2"), api.View{Kind: 3}},
		{odd(), path("r"), api.View{Kind: 4, L: []string{"b"}}},
		{odd(), path("r2"), api.View{Kind: 4}},
		{odd(), path("s"), api.View{Kind: 2, L: []string{"a"}}},
		{odd(), path("s2"), api.View{Kind: 2}},
		{odd(), path("m"), api.View{Kind: 5, L: []string{"\x00", "f"}}},
		{odd(), path("m2"), api.View{Kind: 5}},
		{odd(), path("m", "f"), api.View{Kind: 1}},
		// More than there is room for is read all the same.
		{below(many("e", 99), "m", "m", "s"), path("m", "m", "s"), api.View{Kind: 2, L: keys(many("e", 99))}},
		{below(many("e", 99), "m", "m"), path("m", "m"), api.View{Kind: 5, L: keys(many("e", 99))}},
		{below(entries(99), "c"), path("c"), api.View{Kind: 3, N: 99}},
	} {
		if v, e := op.Read(c.x, c.path...); e != api.OK || !op.Same(v, c.want) {
			t.Errorf("%d: %q: %v %v, want %v", i, c.path, v, e, c.want)
		}
	}
	unread(t, "of a full tree", store(), path("f", "f"), api.ErrKind)
	unread(t, "of a full tree", store(), path("s", "a"), api.ErrArg)
	unread(t, "of a full tree", store(), path("x"), api.ErrArg)
	unread(t, "of a full tree", store(), path("m", "x"), api.ErrArg)
	unread(t, "of a full tree", store(), nil, api.ErrArg)
}

// keys answers the keys of t's kids.
func keys(t api.Tree) []string {
	var l []string
	for _, k := range t.Kids {
		l = append(l, k.Key)
	}
	return l
}

func TestSame(t *testing.T) {
	views := []api.View{
		{}, {Kind: 1}, {Kind: -1}, {On: true}, {Kind: 1, On: true}, {N: 1}, {N: -1}, {N: math.MinInt64}, {Kind: 3, N: 1},
		{L: []string{""}}, {L: []string{"", ""}}, {L: []string{"a"}}, {L: []string{"a", "b"}}, {L: []string{"b", "a"}},
		{L: []string{"a", "a"}}, {Kind: 2, L: []string{"a", "b"}}, {Kind: 2, On: true, N: 1, L: []string{"a", "b"}},
	}
	for i, a := range views {
		for j, b := range views {
			b.L = slices.Clone(b.L)
			if op.Same(a, b) != (i == j) {
				t.Errorf("%v and %v: %v", a, b, op.Same(a, b))
			}
		}
	}
	if !op.Same(api.View{}, api.View{L: []string{}}) || !op.Same(api.View{L: []string{}}, api.View{}) {
		t.Error("no list isn't the same as one of no elements")
	}
}

// join answers all of l joined.
func join(t *testing.T, l ...api.Causal) api.Causal {
	t.Helper()
	c, e := causal.JoinAll(l...)
	if e != api.OK {
		t.Fatal(l, e)
	}
	return c
}

// What is written beside one another, upon the same ground, is joined by the words of each kind.
func TestBesideOneAnother(t *testing.T) {
	x := store()
	own, e := tree.Dots(x)
	if e != api.OK {
		t.Fatal(e)
	}
	for i, c := range []struct {
		a, b api.Op
		path []string
		want api.View
	}{
		{api.Op{Path: path("f"), Act: op.Enable}, api.Op{Path: path("f"), Act: op.Disable}, path("f"), api.View{Kind: 1, On: true}},
		{api.Op{Path: path("f"), Act: op.Disable}, api.Op{Path: path("f"), Act: op.Reset}, path("f"), api.View{Kind: 1}},
		{api.Op{Path: path("s"), Act: op.Add, S: "a"}, api.Op{Path: path("s"), Act: op.Del, S: "a"}, path("s"), api.View{Kind: 2, L: []string{"a", "b"}}},
		{api.Op{Path: path("s"), Act: op.Del, S: "b"}, api.Op{Path: path("s"), Act: op.Del, S: "a"}, path("s"), api.View{Kind: 2}},
		{api.Op{Path: path("s"), Act: op.Add, S: "e"}, api.Op{Path: path("s"), Act: op.Reset}, path("s"), api.View{Kind: 2, L: []string{"e"}}},
		{api.Op{Path: path("c"), Act: op.Inc, N: 4}, api.Op{Path: path("c"), Act: op.Inc, N: 4}, path("c"), api.View{Kind: 3, N: 6}},
		{api.Op{Path: path("c"), Act: op.Inc, N: 4}, api.Op{Path: path("c"), Act: op.Reset}, path("c"), api.View{Kind: 3, N: 4}},
		{api.Op{Path: path("r"), Act: op.Write, S: "v"}, api.Op{Path: path("r"), Act: op.Write, S: "u"}, path("r"), api.View{Kind: 4, L: []string{"u", "v"}}},
		{api.Op{Path: path("r"), Act: op.Write, S: "v"}, api.Op{Path: path("r"), Act: op.Reset}, path("r"), api.View{Kind: 4, L: []string{"v"}}},
		{api.Op{Path: path("m"), Act: op.Reset}, api.Op{Path: path("m", "m2", "s"), Act: op.Add, S: "n"}, path("m"), api.View{Kind: 5, L: []string{"m2"}}},
		{api.Op{Path: path("m"), Act: op.Reset}, api.Op{Path: path("m", "m2", "s"), Act: op.Add, S: "n"}, path("m", "m2", "s"), api.View{Kind: 2, L: []string{"n"}}},
		{api.Op{Path: path("m", "m2"), Act: op.Reset}, api.Op{Path: path("m", "f"), Act: op.Disable}, path("m"), api.View{Kind: 5, L: []string{"c", "r", "s", "x"}}},
	} {
		a, e := op.Apply(x, c.a, at(3, 2))
		b, f := op.Apply(x, c.b, at(3, 4))
		if e != api.OK || f != api.OK {
			t.Fatal(i, e, f)
		}
		ground := api.Causal{T: x, C: own}
		for _, got := range []api.Causal{join(t, ground, a, b), join(t, b, ground, a, b)} {
			if v, e := op.Read(got.T, c.path...); e != api.OK || !op.Same(v, c.want) {
				t.Errorf("%d: %v %v, want %v", i, v, e, c.want)
			}
		}
	}
}

// plain is what one center's changes, one behind the other, make: of each path that has something what is read there, and how many entries it has.
type plain struct {
	views   map[string]api.View
	entries map[string]int
}

// do makes the change o, as the words of its kind say; false, if there is no room.
func (p *plain) do(o api.Op) bool {
	key := strings.Join(o.Path, "/")
	v := p.views[key]
	v.Kind = op.Kind(o.Path[len(o.Path)-1])
	switch o.Act {
	case op.Enable, op.Disable:
		v.On = o.Act == op.Enable
	case op.Add, op.Del:
		l := slices.DeleteFunc(slices.Clone(v.L), func(s string) bool { return s == o.S })
		if v.L = l; o.Act == op.Add {
			v.L = append(l, o.S)
			slices.Sort(v.L)
		}
	case op.Inc:
		if p.entries[key] == api.MaxEntries {
			return false
		}
		p.entries[key]++
		v.N += o.N
	case op.Write:
		v.L = []string{o.S}
	case op.Reset:
		for at := range p.views {
			if at == key || strings.HasPrefix(at, key+"/") {
				delete(p.views, at)
				delete(p.entries, at)
			}
		}
		return true
	}
	if p.views[key] = v; !v.On && len(v.L) == 0 && p.entries[key] == 0 {
		delete(p.views, key)
	}
	return true
}

// read answers what is to be read at that path.
func (p *plain) read(l []string) api.View {
	key := strings.Join(l, "/")
	v := p.views[key]
	if v.Kind = op.Kind(l[len(l)-1]); v.Kind != 5 {
		return v
	}
	for at := range p.views {
		if rest, ok := strings.CutPrefix(at, key+"/"); ok {
			first, _, _ := strings.Cut(rest, "/")
			v.L = append(v.L, first)
		}
	}
	slices.Sort(v.L)
	v.L = slices.Compact(v.L)
	return v
}

// One center's changes, each upon all ahead of it, are as those of plain things.
func TestOneBehindTheOther(t *testing.T) {
	var all [][]string
	for _, way := range [][]string{nil, path("m"), path("m", "m"), path("m", "m2")} {
		for _, key := range []string{"f", "s", "c", "r", "m"} {
			all = append(all, slices.Concat(way, path(key)))
		}
	}
	acts := [][]int{{op.Enable, op.Disable}, {op.Add, op.Del}, {op.Inc}, {op.Write}}
	seed := uint32(1)
	pick := func(n int) int {
		seed = seed*1664525 + 1013904223
		return int(seed>>16) % n
	}
	p := plain{map[string]api.View{}, map[string]int{}}
	var c api.Causal
	full := 0
	for n := range int64(3000) {
		o := api.Op{Path: all[pick(len(all))], Act: op.Reset}
		// What is reset at every turn never grows.
		if kind := op.Kind(o.Path[len(o.Path)-1]); kind == 5 && pick(20) > 0 {
			continue
		} else if kind < 5 && pick(50) > 0 {
			o.Act = acts[kind-1][pick(len(acts[kind-1]))]
		}
		switch o.Act {
		case op.Add, op.Del, op.Write:
			o.S = []string{"a", "b", longest}[pick(3)]
		case op.Inc:
			o.N = int64(pick(9)) - 4
		}
		want := api.OK
		if !p.do(o) {
			want = api.ErrFull
			full++
		}
		delta, e := op.Apply(c.T, o, at(1, n+1))
		if e != want {
			t.Fatalf("%d: %v: %v, want %v", n, o, e, want)
		}
		c = join(t, c, delta)
		for _, l := range all {
			if v, e := op.Read(c.T, l...); e != api.OK || !op.Same(v, p.read(l)) {
				t.Fatalf("%d: %v: at %q %v %v, want %v", n, o, l, v, e, p.read(l))
			}
		}
	}
	if full == 0 {
		t.Error("no counter was full")
	}
}

// roomy answers t with spare room, in which something stands, behind each of its lists.
func roomy(t api.Tree) api.Tree {
	var y api.Tree
	n, m := len(t.Entries), len(t.Kids)
	y.Entries = append(slices.Clone(t.Entries), text(api.Dot{}, "spare"))[:n]
	for _, k := range t.Kids {
		y.Kids = append(y.Kids, kid(k.Key, roomy(k.T)))
	}
	y.Kids = append(y.Kids, kid("spare", api.Tree{}))[:m]
	return y
}

// intact tells whether y is t as roomy made it.
func intact(t, y api.Tree) bool {
	n, m := len(t.Entries), len(t.Kids)
	if !slices.Equal(y.Entries, t.Entries) || y.Entries[:n+1][n] != text(api.Dot{}, "spare") {
		return false
	}
	if k := y.Kids[:m+1][m]; k.Key != "spare" || !tree.Empty(k.T) {
		return false
	}
	return slices.EqualFunc(t.Kids, y.Kids, func(a, b api.Kid) bool { return a.Key == b.Key && intact(a.T, b.T) })
}

// spoil writes over all lists of t, and over their spare room.
func spoil(t api.Tree) {
	for _, k := range t.Kids {
		spoil(k.T)
	}
	clear(t.Entries[:cap(t.Entries)])
	clear(t.Kids[:cap(t.Kids)])
}

// What is handed in stays as it is, its spare room too, and what is answered is new memory.
func TestAnswersStandAlone(t *testing.T) {
	d := at(3, 2)
	x := roomy(store())
	for _, w := range changes(d) {
		o := w.o
		n := len(o.Path)
		o.Path = append(slices.Clone(o.Path), "spare", "spare")[:n]
		want := api.Causal{T: below(w.want, w.o.Path...), C: dots(t, append(w.dots, d)...)}
		view, e := op.Read(store(), w.o.Path...)
		if e != api.OK {
			t.Fatal(e)
		}
		for range 2 {
			got, e := op.Apply(x, o, d)
			if e != api.OK || !causal.Same(got, want) {
				t.Errorf("%v, perhaps again: %v %v", o, got, e)
			}
			spoil(got.T)
			clear(got.C[:cap(got.C)])
			v, e := op.Read(x, o.Path...)
			if e != api.OK || !op.Same(v, view) {
				t.Errorf("%q, perhaps again: %v %v", o.Path, v, e)
			}
			clear(v.L[:cap(v.L)])
		}
		if !slices.Equal(o.Path[:n+2], append(slices.Clone(w.o.Path), "spare", "spare")) {
			t.Errorf("the path that was handed in, or its spare room, is changed: %q", o.Path[:n+2])
		}
		if !intact(store(), x) {
			t.Fatalf("%v: the tree that was handed in, or its spare room, is changed: %v", o, x)
		}
	}
	a, b := append(path("a", "b"), "spare")[:2], append(path("a", "b"), "other")[:2]
	if !op.Same(api.View{L: a}, api.View{L: b}) || a[:3][2] != "spare" || b[:3][2] != "other" {
		t.Error(a, b)
	}
}
