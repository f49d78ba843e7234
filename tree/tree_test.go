package tree_test

import (
	"math"
	"slices"
	"strconv"
	"strings"
	"testing"

	"tributary/api"
	"tributary/context"
	"tributary/tree"
)

const (
	most = int64(api.MaxDot)
	inc  = int64(api.MaxInc)
)

// longest and tooLong are texts of MaxText bytes, and of one more.
var (
	longest = strings.Repeat("x", api.MaxText)
	tooLong = longest + "x"
)

// en makes an entry.
func en(dc int, n int64, s string, v int64) api.Entry {
	return api.Entry{Dot: api.Dot{DC: dc, N: n}, S: s, N: v}
}

// leaf makes a tree of entries alone.
func leaf(l ...api.Entry) api.Tree { return api.Tree{Entries: l} }

// at makes a tree of one kid alone.
func at(key string, t api.Tree) api.Tree { return api.Tree{Kids: []api.Kid{{Key: key, T: t}}} }

// below makes a tree of that path alone, at whose end is t, without package tree.
func below(t api.Tree, path ...string) api.Tree {
	for i := len(path) - 1; i >= 0; i-- {
		t = at(path[i], t)
	}
	return t
}

// one is a tree of one entry.
func one() api.Tree { return leaf(en(0, 1, "", 0)) }

// some is a tree of entries on each of three levels, a dot of it at two places.
func some() api.Tree {
	return api.Tree{
		Entries: []api.Entry{en(0, 1, "", 0), en(2, 7, "z", -3)},
		Kids: []api.Kid{
			{Key: "a", T: leaf(en(0, 2, "x", 1), en(0, 4, "x", 1))},
			{Key: "b", T: api.Tree{
				Entries: []api.Entry{en(3, 1, "", 5)},
				Kids:    []api.Kid{{Key: "a", T: leaf(en(0, 2, "q", 9))}, {Key: "c", T: leaf(en(0, 3, "y", 0))}},
			}},
			{Key: "c", T: at("c", leaf(en(1, 5, "", inc)))},
		},
	}
}

// wide makes a tree of so many entries, and so many kids, each of one entry.
func wide(n int) api.Tree {
	var t api.Tree
	for i := range n {
		t.Entries = append(t.Entries, en(1, int64(i+1), "", 0))
		t.Kids = append(t.Kids, api.Kid{Key: string([]byte{1 + byte(i>>8), byte(i)}), T: leaf(en(2, int64(2*i+1), "", 0))})
	}
	return t
}

// rights answers trees, no two of them the same, the first one empty.
func rights() []api.Tree {
	return []api.Tree{
		{},
		one(),
		leaf(en(0, 1, "", 1)),
		leaf(en(0, 1, "a", 0)),
		leaf(en(0, 2, "", 0)),
		leaf(en(1, 1, "", 0)),
		leaf(en(3, most, longest, inc)),
		leaf(en(3, most, longest, -inc)),
		leaf(en(0, 9, "", 0), en(1, 2, "", 0), en(1, 3, "", 0), en(3, 1, "", 0)),
		at("a", one()),
		at("b", one()),
		at("aa", one()),
		at(longest, one()),
		at("\x00", one()),
		at("\xff\xfe", one()),
		below(one(), "a", "a"),
		below(one(), "a", "b", "c", "d"),
		below(some(), "a", "b"),
		{Entries: []api.Entry{en(0, 1, "", 0)}, Kids: []api.Kid{{Key: "a", T: one()}}},
		// The keys' order is that of their bytes.
		{Kids: []api.Kid{{Key: "B", T: one()}, {Key: "a", T: one()}, {Key: "a\x00", T: one()}, {Key: "ab", T: one()}, {Key: "b", T: one()}, {Key: "\x80", T: one()}, {Key: "é", T: one()}}},
		some(),
		// More than MaxKids keys, and more than MaxEntries entries.
		wide(100),
	}
}

// wrongs answers trees that aren't right, each for one cause at its root.
func wrongs() map[string]api.Tree {
	m := map[string]api.Tree{
		"the zero entry":            leaf(api.Entry{}),
		"a dot of number 0":         leaf(en(0, 0, "", 0)),
		"a dot below 0":             leaf(en(1, -1, "", 0)),
		"a dot far below 0":         leaf(en(1, math.MinInt64, "", 0)),
		"a dot above MaxDot":        leaf(en(0, most+1, "", 0)),
		"a dot far above":           leaf(en(0, math.MaxInt64, "", 0)),
		"no center":                 leaf(en(api.MaxDC, 1, "", 0)),
		"a center below 0":          leaf(en(-1, 1, "", 0)),
		"the last dot is none":      leaf(en(0, 1, "", 0), en(1, 1, "", 0), en(4, 1, "", 0)),
		"the first dot is none":     leaf(en(0, 0, "", 0), en(0, 1, "", 0)),
		"one dot twice":             leaf(en(0, 2, "", 0), en(0, 2, "", 0)),
		"one dot twice, unlike":     leaf(en(0, 2, "a", 0), en(0, 2, "b", 1)),
		"the numbers fall":          leaf(en(0, 2, "", 0), en(0, 1, "", 0)),
		"the last number falls":     leaf(en(0, 1, "", 0), en(0, 3, "", 0), en(0, 2, "", 0)),
		"the centers fall":          leaf(en(1, 1, "", 0), en(0, 2, "", 0)),
		"a text too long":           leaf(en(0, 1, tooLong, 0)),
		"a text far too long":       leaf(en(0, 1, strings.Repeat("y", 1<<16), 0)),
		"the second text too long":  leaf(en(0, 1, longest, 0), en(0, 2, tooLong, 0)),
		"a number above MaxInc":     leaf(en(0, 1, "", inc+1)),
		"a number below":            leaf(en(0, 1, "", -inc-1)),
		"the greatest number":       leaf(en(0, 1, "", math.MaxInt64)),
		"the least number":          leaf(en(0, 1, "", math.MinInt64)),
		"the second number above":   leaf(en(0, 1, "", inc), en(0, 2, "", inc+1)),
		"no key":                    at("", one()),
		"a key too long":            at(tooLong, one()),
		"a key far too long":        at(strings.Repeat("k", 1<<16), one()),
		"one key twice":             {Kids: []api.Kid{{Key: "a", T: one()}, {Key: "a", T: one()}}},
		"one key twice, unlike":     {Kids: []api.Kid{{Key: "a", T: one()}, {Key: "a", T: some()}}},
		"the keys fall":             {Kids: []api.Kid{{Key: "b", T: one()}, {Key: "a", T: one()}}},
		"the last key falls":        {Kids: []api.Kid{{Key: "a", T: one()}, {Key: "c", T: one()}, {Key: "b", T: one()}}},
		"a longer key first":        {Kids: []api.Kid{{Key: "aa", T: one()}, {Key: "a", T: one()}}},
		"no key behind one":         {Kids: []api.Kid{{Key: "a", T: one()}, {Key: "", T: one()}}},
		"no key ahead of one":       {Kids: []api.Kid{{Key: "", T: one()}, {Key: "a", T: one()}}},
		"an empty kid":              at("a", api.Tree{}),
		"an empty kid of no lists":  at("a", api.Tree{Entries: []api.Entry{}, Kids: []api.Kid{}}),
		"the last kid is empty":     {Kids: []api.Kid{{Key: "a", T: one()}, {Key: "b"}}},
		"the first kid is empty":    {Kids: []api.Kid{{Key: "a"}, {Key: "b", T: one()}}},
		"a kid of a kid is empty":   at("a", at("b", api.Tree{})),
		"six levels":                below(one(), "a", "b", "c", "d", "e"),
		"the last kid is too deep":  {Kids: []api.Kid{{Key: "a", T: one()}, {Key: "b", T: below(one(), "a", "b", "c", "d")}}},
		"the first kid is too deep": {Kids: []api.Kid{{Key: "a", T: below(one(), "a", "b", "c", "d")}, {Key: "b", T: one()}}},
		"far too deep":              below(one(), strings.Split(strings.Repeat("k", 1<<16), "")...),
	}
	m["an entry that is none ahead of kids"] = api.Tree{Entries: []api.Entry{{}}, Kids: some().Kids}
	m["a kid that is none behind entries"] = api.Tree{Entries: some().Entries, Kids: []api.Kid{{Key: "a"}}}
	// A tree of itself has no end.
	round := []api.Kid{{Key: "a", T: one()}}
	round[0].T.Kids = round
	m["its own kid"] = api.Tree{Kids: round}
	return m
}

func TestRight(t *testing.T) {
	for i, x := range rights() {
		if !tree.Right(x) {
			t.Errorf("%d: %v isn't right", i, x)
		}
	}
	for what, x := range wrongs() {
		if tree.Right(x) {
			t.Errorf("%s: is right", what)
		}
		// Nor is one that has it as a kid, alone or beside others.
		for _, y := range []api.Tree{at("k", x), below(x, "a", "b"), {Entries: one().Entries, Kids: []api.Kid{{Key: "a", T: one()}, {Key: "b", T: x}, {Key: "c", T: one()}}}} {
			if tree.Right(y) {
				t.Errorf("%s: is right as a kid", what)
			}
		}
	}
}

// A tree is as deep as its deepest kid, wherever that stands.
func TestRightOfLevels(t *testing.T) {
	path := []string{"a", "b", "c", "d", "e", "f", "g"}
	for n := range path {
		x := below(one(), path[:n]...)
		if tree.Right(x) != (n+1 <= api.MaxDeep) {
			t.Errorf("of %d levels: Right %v", n+1, !tree.Right(x))
		}
		y := api.Tree{Kids: []api.Kid{{Key: "a", T: one()}, {Key: "b", T: x}, {Key: "c", T: one()}}}
		if tree.Right(y) != (n+2 <= api.MaxDeep) {
			t.Errorf("of %d levels beside others: Right %v", n+2, !tree.Right(y))
		}
	}
}

func TestEmpty(t *testing.T) {
	for i, x := range rights() {
		if tree.Empty(x) != (i == 0) {
			t.Errorf("%d: Empty %v", i, tree.Empty(x))
		}
	}
	for _, x := range []api.Tree{{}, {Entries: []api.Entry{}}, {Kids: []api.Kid{}}, {Entries: make([]api.Entry, 0, 3), Kids: make([]api.Kid, 0, 3)}} {
		if !tree.Empty(x) {
			t.Errorf("%v isn't empty", x)
		}
	}
	for what, x := range wrongs() {
		if tree.Empty(x) {
			t.Errorf("%s: is empty", what)
		}
	}
}

func TestDots(t *testing.T) {
	for _, c := range []struct {
		t    api.Tree
		want api.Ctx
	}{
		{api.Tree{}, nil},
		{one(), api.Ctx{{DC: 0, From: 1, To: 1}}},
		{below(leaf(en(3, most, "", 0)), "a", "b", "c", "d"), api.Ctx{{DC: 3, From: most, To: most}}},
		{some(), api.Ctx{{DC: 0, From: 1, To: 4}, {DC: 1, From: 5, To: 5}, {DC: 2, From: 7, To: 7}, {DC: 3, From: 1, To: 1}}},
		// The greater dots stand ahead of the less, and one at two places counts once.
		{api.Tree{Entries: one().Entries, Kids: []api.Kid{{Key: "a", T: leaf(en(1, 9, "", 0))}, {Key: "b", T: one()}, {Key: "c", T: leaf(en(1, 7, "", 0), en(1, 8, "", 0))}}},
			api.Ctx{{DC: 0, From: 1, To: 1}, {DC: 1, From: 7, To: 9}}},
	} {
		if got, e := tree.Dots(c.t); e != api.OK || !slices.Equal(got, c.want) {
			t.Errorf("Dots of %v: %v %v", c.t, got, e)
		}
	}
	got, e := tree.Dots(wide(3000))
	if e != api.OK || len(got) != 3001 || context.Count(got) != 6000 || !context.Right(got) {
		t.Error(len(got), e)
	}
}

func TestGet(t *testing.T) {
	for _, c := range []struct {
		path []string
		want api.Tree
	}{
		{nil, some()},
		{[]string{}, some()},
		{[]string{"a"}, leaf(en(0, 2, "x", 1), en(0, 4, "x", 1))},
		{[]string{"b"}, some().Kids[1].T},
		{[]string{"b", "a"}, leaf(en(0, 2, "q", 9))},
		{[]string{"b", "c"}, leaf(en(0, 3, "y", 0))},
		{[]string{"c"}, at("c", leaf(en(1, 5, "", inc)))},
		{[]string{"c", "c"}, leaf(en(1, 5, "", inc))},
		{[]string{"c", "c", "c"}, api.Tree{}},
		{[]string{"a", "a"}, api.Tree{}},
		{[]string{"b", "b"}, api.Tree{}},
		{[]string{"d"}, api.Tree{}},
		{[]string{"d", "a"}, api.Tree{}},
		{[]string{"B"}, api.Tree{}},
		{[]string{""}, api.Tree{}},
		{[]string{"b", ""}, api.Tree{}},
		{[]string{"", "b"}, api.Tree{}},
		{[]string{"bb"}, api.Tree{}},
		{[]string{tooLong}, api.Tree{}},
		{[]string{"b", "c", "d", "e", "f", "g", "h"}, api.Tree{}},
	} {
		if got := tree.Get(some(), c.path...); !tree.Same(got, c.want) || !tree.Right(got) {
			t.Errorf("Get of %q: %v", c.path, got)
		}
		if got := tree.Get(api.Tree{}, c.path...); !tree.Empty(got) {
			t.Errorf("Get of %q of an empty one: %v", c.path, got)
		}
	}
	for _, key := range []string{"B", "a", "a\x00", "ab", "b", "\x80", "é"} {
		if got := tree.Get(rights()[19], key); !tree.Same(got, one()) {
			t.Errorf("Get of %q: %v", key, got)
		}
	}
	for _, k := range wide(1000).Kids {
		if got := tree.Get(wide(1000), k.Key); !tree.Same(got, k.T) {
			t.Errorf("Get of %q: %v", k.Key, got)
		}
	}
}

// wraps asks Wrap for one answer.
func wraps(t *testing.T, x api.Tree, path []string, want api.Tree, e api.Errno) {
	t.Helper()
	got, err := tree.Wrap(x, path...)
	if err != e || !tree.Same(got, want) {
		t.Errorf("Wrap of %v by %q: %v %v, want %v %v", x, path, got, err, want, e)
	}
}

func TestWrap(t *testing.T) {
	// The chapter's example.
	wraps(t, one(), []string{"a", "b"}, api.Tree{Kids: []api.Kid{{Key: "a", T: api.Tree{Kids: []api.Kid{{Key: "b", T: one()}}}}}}, api.OK)
	wraps(t, some(), nil, some(), api.OK)
	wraps(t, some(), []string{longest}, at(longest, some()), api.OK)
	wraps(t, some(), []string{"a", "a"}, at("a", at("a", some())), api.OK)
	path := []string{"g", "f", "e", "d", "c", "b", "a"}
	for n := range path {
		for i, x := range rights() {
			want, e := below(x, path[:n]...), api.OK
			switch {
			case i == 0 && n <= api.MaxDeep:
				want = api.Tree{}
			case !tree.Right(want):
				want, e = api.Tree{}, api.ErrDeep
			}
			wraps(t, x, path[:n], want, e)
			if e == api.OK && i > 0 {
				if got, _ := tree.Wrap(x, path[:n]...); !tree.Same(tree.Get(got, path[:n]...), x) || tree.Size(got) != tree.Size(x) {
					t.Errorf("Wrap of %v by %q: %v", x, path[:n], got)
				}
			}
		}
	}
	wraps(t, one(), slices.Repeat([]string{"k"}, 1<<16), api.Tree{}, api.ErrDeep)
	wraps(t, api.Tree{}, slices.Repeat([]string{"k"}, 1<<16), api.Tree{}, api.ErrDeep)
}

// A key that may not be is told ahead of what is too deep, and of a tree that is empty.
func TestWrapByWrongKeys(t *testing.T) {
	for _, key := range []string{"", tooLong, strings.Repeat("k", 1<<16)} {
		for n := range 9 {
			for i := range n {
				path := slices.Repeat([]string{"k"}, n)
				path[i] = key
				for _, x := range rights() {
					wraps(t, x, path, api.Tree{}, api.ErrArg)
				}
			}
		}
	}
}

func TestOnlyAndWithout(t *testing.T) {
	s := some()
	for _, c := range []struct {
		keys          []string
		only, without []int
	}{
		{nil, nil, []int{0, 1, 2}},
		{[]string{}, nil, []int{0, 1, 2}},
		{[]string{"a"}, []int{0}, []int{1, 2}},
		{[]string{"b"}, []int{1}, []int{0, 2}},
		{[]string{"c", "a"}, []int{0, 2}, []int{1}},
		{[]string{"c", "b", "a"}, []int{0, 1, 2}, nil},
		{[]string{"b", "b", "", "b"}, []int{1}, []int{0, 2}},
		{[]string{"d", "B", "bb", "", tooLong}, nil, []int{0, 1, 2}},
		{[]string{"z", "c", "y", "\x00"}, []int{2}, []int{0, 1}},
		{append(slices.Repeat([]string{"z", ""}, 1<<15), "b", "a"), []int{0, 1}, []int{2}},
	} {
		only, without := api.Tree{}, api.Tree{Entries: s.Entries}
		for _, i := range c.only {
			only.Kids = append(only.Kids, s.Kids[i])
		}
		for _, i := range c.without {
			without.Kids = append(without.Kids, s.Kids[i])
		}
		if got := tree.Only(some(), c.keys...); !tree.Same(got, only) {
			t.Errorf("Only %q: %v", c.keys[:min(9, len(c.keys))], got)
		}
		if got := tree.Without(some(), c.keys...); !tree.Same(got, without) {
			t.Errorf("Without %q: %v", c.keys[:min(9, len(c.keys))], got)
		}
		if x, y := tree.Only(api.Tree{}, c.keys...), tree.Without(api.Tree{}, c.keys...); !tree.Empty(x) || !tree.Empty(y) {
			t.Errorf("of an empty one: %v %v", x, y)
		}
		if x, y := tree.Only(one(), c.keys...), tree.Without(one(), c.keys...); !tree.Empty(x) || !tree.Same(y, one()) {
			t.Errorf("of one without kids: %v %v", x, y)
		}
	}
}

// Of many kids, many keys; what both answer is the whole.
func TestOnlyAndWithoutOfMany(t *testing.T) {
	w := wide(1 << 14)
	var keys []string
	for i, k := range w.Kids {
		if i%3 == 1 {
			keys = append(keys, k.Key, k.Key+"x", "")
		}
	}
	slices.Reverse(keys)
	only, without := tree.Only(w, keys...), tree.Without(w, keys...)
	if !tree.Right(only) || !tree.Right(without) || len(only.Entries) != 0 || !slices.Equal(without.Entries, w.Entries) || len(only.Kids) != len(keys)/3 {
		t.Fatal(len(only.Entries), len(only.Kids), len(without.Entries), len(without.Kids))
	}
	all := slices.Concat(only.Kids, without.Kids)
	slices.SortFunc(all, func(x, y api.Kid) int { return strings.Compare(x.Key, y.Key) })
	if !tree.Same(api.Tree{Entries: w.Entries, Kids: all}, w) {
		t.Error("Only and Without aren't the whole")
	}
}

func TestSame(t *testing.T) {
	for i, a := range rights() {
		for j, b := range rights() {
			if tree.Same(a, b) != (i == j) {
				t.Errorf("Same(%v, %v): %v", a, b, tree.Same(a, b))
			}
		}
	}
	empty := api.Tree{Entries: []api.Entry{}, Kids: []api.Kid{}}
	x := at("a", api.Tree{Entries: one().Entries, Kids: []api.Kid{}})
	if !tree.Same(empty, api.Tree{}) || !tree.Same(api.Tree{}, empty) || !tree.Same(x, at("a", one())) || !tree.Same(at("a", one()), x) {
		t.Error("a list of none and nil aren't the same")
	}
}

// Trees in which one thing alone is unlike, at any place, aren't the same.
func TestSameOfOneThingUnlike(t *testing.T) {
	unlike := []func(*api.Tree){
		func(x *api.Tree) { x.Entries[1].S = "zz" },
		func(x *api.Tree) { x.Entries[1].N++ },
		func(x *api.Tree) { x.Entries[1].Dot.N++ },
		func(x *api.Tree) { x.Entries[1].Dot.DC++ },
		func(x *api.Tree) { x.Entries = x.Entries[:1] },
		func(x *api.Tree) { x.Entries = append(x.Entries, en(3, 3, "", 0)) },
		func(x *api.Tree) { x.Kids = x.Kids[:2] },
		func(x *api.Tree) { x.Kids = append(x.Kids, api.Kid{Key: "d", T: one()}) },
		func(x *api.Tree) { x.Kids[2].Key = "d" },
		func(x *api.Tree) { x.Kids[0].T.Entries[0].S = "" },
		func(x *api.Tree) { x.Kids[1].T.Kids[1].T.Entries[0].N = 1 },
		func(x *api.Tree) { x.Kids[1].T.Kids[1].Key = "b" },
		func(x *api.Tree) { x.Kids[1].T.Kids = x.Kids[1].T.Kids[:1] },
		func(x *api.Tree) { x.Kids[1].T.Entries = nil },
		func(x *api.Tree) { x.Kids[2].T.Kids[0].T = one() },
		func(x *api.Tree) { x.Kids[0].T, x.Kids[2].T = x.Kids[2].T, x.Kids[0].T },
	}
	for i, change := range unlike {
		x := some()
		change(&x)
		if !tree.Right(x) || tree.Same(x, some()) || tree.Same(some(), x) || !tree.Same(x, x) {
			t.Errorf("%d: %v", i, x)
		}
	}
}

func TestSize(t *testing.T) {
	for _, c := range []struct {
		t    api.Tree
		want int
	}{{api.Tree{}, 0}, {one(), 1}, {some(), 8}, {below(one(), "a", "b", "c", "d"), 1}, {below(some(), "a", "b"), 8}, {wide(1000), 2000}, {leaf(wide(30).Entries...), 30}} {
		if got := tree.Size(c.t); got != c.want {
			t.Errorf("Size of %v: %d", c.t, got)
		}
	}
}

func TestClone(t *testing.T) {
	for i, x := range rights() {
		if got := tree.Clone(x); !tree.Same(got, x) || !tree.Same(x, rights()[i]) {
			t.Errorf("Clone of %v: %v", x, got)
		}
	}
}

func TestOfWrongTrees(t *testing.T) {
	for what, x := range wrongs() {
		if c, e := tree.Dots(x); e != api.ErrArg || len(c) != 0 {
			t.Errorf("%s: Dots %v %v", what, c, e)
		}
		for _, path := range [][]string{nil, {"a"}, {"a", "b"}, {"", "a"}, {"a", "b", "c", "d", "e", "f"}} {
			if y, e := tree.Wrap(x, path...); e != api.ErrArg || !tree.Empty(y) {
				t.Errorf("%s: Wrap by %q: %v %v", what, path, y, e)
			}
			if y := tree.Get(x, path...); !tree.Empty(y) {
				t.Errorf("%s: Get of %q: %v", what, path, y)
			}
			if y := tree.Only(x, path...); !tree.Empty(y) {
				t.Errorf("%s: Only %q: %v", what, path, y)
			}
			if y := tree.Without(x, path...); !tree.Empty(y) {
				t.Errorf("%s: Without %q: %v", what, path, y)
			}
		}
		if y := tree.Clone(x); !tree.Empty(y) || tree.Size(x) != 0 {
			t.Errorf("%s: Clone %v, Size %d", what, y, tree.Size(x))
		}
		if tree.Same(x, x) {
			t.Errorf("%s: Same as itself", what)
		}
		for _, y := range rights() {
			if tree.Same(x, y) || tree.Same(y, x) {
				t.Errorf("%s: Same as %v", what, y)
			}
		}
	}
}

// A flat is a tree as the list of its entries' places: the keys on the way, and the entry.
type flat map[string]api.Entry

// flatten makes it without package tree.
func flatten(f flat, way string, t api.Tree) flat {
	for _, e := range t.Entries {
		f[way+" "+strconv.Itoa(e.Dot.DC)+" "+strconv.FormatInt(e.Dot.N, 10)] = e
	}
	for _, k := range t.Kids {
		flatten(f, way+"/"+k.Key, k.T)
	}
	return f
}

// small answers all trees of three levels at most that have up to two entries at the root, and of each of two keys none, or one of a few.
func small() []api.Tree {
	tops := [][]api.Entry{nil, {en(0, 1, "", 0)}, {en(0, 1, "s", 2), en(1, 1, "", 0)}}
	lows := []api.Tree{{}, one(), leaf(en(2, 1, "", 1), en(2, 2, "", 1)), at("p", one()), {Entries: one().Entries, Kids: []api.Kid{{Key: "p", T: leaf(en(1, 1, "", 0))}, {Key: "q", T: one()}}}}
	var l []api.Tree
	for _, top := range tops {
		for _, p := range lows {
			for _, q := range lows {
				x := api.Tree{Entries: top}
				if len(p.Entries)+len(p.Kids) > 0 {
					x.Kids = append(x.Kids, api.Kid{Key: "p", T: p})
				}
				if len(q.Entries)+len(q.Kids) > 0 {
					x.Kids = append(x.Kids, api.Kid{Key: "q", T: q})
				}
				l = append(l, x)
			}
		}
	}
	return l
}

// keep answers those of f whose place begins by way, and, if cut, without it.
func keep(f flat, way string, cut bool) flat {
	g := flat{}
	for place, e := range f {
		if strings.HasPrefix(place, way+"/") || strings.HasPrefix(place, way+" ") {
			if cut {
				place = place[len(way):]
			}
			g[place] = e
		}
	}
	return g
}

// like tells whether two have the same entries at the same places.
func like(f, g flat) bool {
	for place, e := range f {
		if o, ok := g[place]; !ok || o != e {
			return false
		}
	}
	return len(f) == len(g)
}

// All calls of many small trees, held against their lists of places.
func TestAgainstPlaces(t *testing.T) {
	for _, x := range small() {
		f := flatten(flat{}, "", x)
		if !tree.Right(x) || tree.Size(x) != len(f) || tree.Empty(x) != (len(f) == 0) || !like(flatten(flat{}, "", tree.Clone(x)), f) {
			t.Fatalf("%v: Right %v, Size %d, Clone %v", x, tree.Right(x), tree.Size(x), tree.Clone(x))
		}
		var dots []api.Dot
		for _, e := range f {
			dots = append(dots, e.Dot)
		}
		want, _ := context.Of(dots...)
		if c, e := tree.Dots(x); e != api.OK || !slices.Equal(c, want) {
			t.Fatalf("Dots of %v: %v %v", x, c, e)
		}
		for _, path := range [][]string{nil, {"p"}, {"q"}, {"p", "p"}, {"q", "p"}, {"q", "q"}, {"r"}, {"p", "q", "p"}} {
			way := ""
			for _, key := range path {
				way += "/" + key
			}
			if got := tree.Get(x, path...); !tree.Right(got) || !like(flatten(flat{}, "", got), keep(f, way, true)) {
				t.Fatalf("Get of %q of %v: %v", path, x, got)
			}
			w, e := tree.Wrap(x, path...)
			if e != api.OK && tree.Right(below(x, path...)) || e == api.OK && !like(keep(flatten(flat{}, "", w), way, true), f) || e == api.OK && tree.Size(w) != len(f) {
				t.Fatalf("Wrap of %v by %q: %v %v", x, path, w, e)
			}
		}
		p, rest := tree.Only(x, "p"), tree.Without(x, "p")
		if !tree.Right(p) || !tree.Right(rest) || !like(flatten(flat{}, "", p), keep(f, "/p", false)) || tree.Size(p)+tree.Size(rest) != len(f) ||
			len(keep(flatten(flat{}, "", rest), "/p", false)) != 0 || !like(keep(flatten(flat{}, "", rest), "/q", false), keep(f, "/q", false)) || !slices.Equal(rest.Entries, x.Entries) {
			t.Fatalf("of %v: Only %v, Without %v", x, p, rest)
		}
		for _, y := range small() {
			if tree.Same(x, y) != like(f, flatten(flat{}, "", y)) {
				t.Fatalf("Same(%v, %v): %v", x, y, tree.Same(x, y))
			}
		}
	}
}

// roomy answers x with spare room, in which something stands, behind each of its lists.
func roomy(x api.Tree) api.Tree {
	y := api.Tree{}
	y.Entries = append(append(make([]api.Entry, 0, len(x.Entries)+2), x.Entries...), en(9, 9, "spare", 9), en(9, 8, "spare", 9))[:len(x.Entries)]
	for _, k := range x.Kids {
		y.Kids = append(y.Kids, api.Kid{Key: k.Key, T: roomy(k.T)})
	}
	n := len(y.Kids)
	y.Kids = append(append(make([]api.Kid, 0, n+2), y.Kids...), api.Kid{Key: "spare", T: one()}, api.Kid{})[:n]
	return y
}

// intact tells whether y is x as roomy made it.
func intact(x, y api.Tree) bool {
	n, m := len(x.Entries), len(x.Kids)
	if !slices.Equal(y.Entries, x.Entries) || !slices.Equal(y.Entries[n:n+2], []api.Entry{en(9, 9, "spare", 9), en(9, 8, "spare", 9)}) || len(y.Kids) != m {
		return false
	}
	spare := y.Kids[m : m+2]
	if spare[0].Key != "spare" || !slices.Equal(spare[0].T.Entries, one().Entries) || spare[1].Key != "" || !tree.Empty(spare[1].T) {
		return false
	}
	for i, k := range x.Kids {
		if y.Kids[i].Key != k.Key || !intact(k.T, y.Kids[i].T) {
			return false
		}
	}
	return true
}

// spoil overwrites all of x, its spare room too.
func spoil(x api.Tree) {
	for _, k := range x.Kids {
		spoil(k.T)
	}
	for i := range x.Entries[:cap(x.Entries)] {
		x.Entries[:cap(x.Entries)][i] = en(-1, -1, "spoilt", -1)
	}
	for i := range x.Kids[:cap(x.Kids)] {
		x.Kids[:cap(x.Kids)][i] = api.Kid{Key: "spoilt"}
	}
}

// What is handed in stays as it is, its spare room too, and what is answered is new memory.
func TestTreesStandAlone(t *testing.T) {
	x, other := roomy(some()), roomy(below(some(), "a"))
	keys := []string{"c", "b", "z", "a", "spare", "b"}
	path := keys[1:2:4]
	was := slices.Clone(keys)
	calls := map[string]func() api.Tree{
		"Get of all":   func() api.Tree { return tree.Get(x) },
		"Get":          func() api.Tree { return tree.Get(x, path...) },
		"Get of it":    func() api.Tree { return tree.Get(other, "a") },
		"Only":         func() api.Tree { return tree.Only(x, keys[:3]...) },
		"Only all":     func() api.Tree { return tree.Only(x, keys...) },
		"Without":      func() api.Tree { return tree.Without(x, path...) },
		"Without none": func() api.Tree { return tree.Without(x) },
		"Without all":  func() api.Tree { return tree.Without(x, keys...) },
		"Clone":        func() api.Tree { return tree.Clone(x) },
		"Wrap by none": func() api.Tree { w, _ := tree.Wrap(x); return w },
		"Wrap":         func() api.Tree { w, _ := tree.Wrap(x, path...); return w },
	}
	for what, call := range calls {
		got := call()
		want := roomy(got)
		spoil(got)
		if !tree.Same(call(), want) || tree.Empty(want) {
			t.Errorf("%s, again: %v, want %v", what, call(), want)
		}
	}
	for range 2 {
		c, e := tree.Dots(x)
		if e != api.OK || len(c) != 4 {
			t.Error(c, e)
		}
		clear(c[:cap(c)])
	}
	tree.Right(x)
	tree.Empty(x)
	tree.Same(x, other)
	tree.Size(x)
	if !intact(some(), x) || !intact(below(some(), "a"), other) || !slices.Equal(keys, was) {
		t.Errorf("what was handed in, or its spare room, is changed: %v %v %q", x, other, keys)
	}
}

// No two lists of one answer share memory: each is written to its end, and the others stay.
func TestListsOfOneAnswerShareNone(t *testing.T) {
	// One tree at two keys: the lists that come in do share.
	low := roomy(some())
	x := api.Tree{Kids: []api.Kid{{Key: "a", T: low}, {Key: "b", T: low}}}
	w, _ := tree.Wrap(x, "k")
	for i, y := range []api.Tree{tree.Clone(x), tree.Get(x), tree.Only(x, "a", "b"), tree.Without(x), w.Kids[0].T} {
		if !tree.Same(y, x) {
			t.Fatal(i, y)
		}
		spoil(y.Kids[0].T)
		if !tree.Same(y.Kids[1].T, some()) {
			t.Errorf("%d: the second kid is changed: %v", i, y.Kids[1].T)
		}
	}
}
