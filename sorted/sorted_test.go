package sorted_test

import (
	"cmp"
	"maps"
	"math"
	"slices"
	"testing"

	"tributary/sorted"
)

type (
	pair = sorted.Pair[string, int]
	list = sorted.Map[string, int]
)

func p(k string, v int) pair { return pair{Key: k, V: v} }

// holds asks the whole of a map: its pairs, told in every way that tells all.
func holds(t *testing.T, what string, m list, want ...pair) {
	t.Helper()
	if got := m.All(); !slices.Equal(got, want) {
		t.Errorf("%s: All is %v, want %v", what, got, want)
	}
	if m.Len() != len(want) {
		t.Errorf("%s: Len is %d, want %d", what, m.Len(), len(want))
	}
	for _, w := range want {
		if v, ok := m.Get(w.Key); v != w.V || !ok {
			t.Errorf("%s: Get(%q) is %d %v, want %d", what, w.Key, v, ok, w.V)
		}
	}
}

func abc() list { return sorted.Of(p("a", 1), p("b", 2), p("c", 3)) }

func TestOf(t *testing.T) {
	holds(t, "nothing", sorted.Of[string, int]())
	holds(t, "a nil list", sorted.Of([]pair(nil)...))
	holds(t, "an empty list", sorted.Of([]pair{}...))
	holds(t, "one", sorted.Of(p("a", 1)), p("a", 1))
	holds(t, "the example", sorted.Of(p("b", 1), p("a", 2)), p("a", 2), p("b", 1))
	holds(t, "falling", sorted.Of(p("c", 1), p("b", 2), p("a", 3)), p("a", 3), p("b", 2), p("c", 1))
	holds(t, "the last one, not the greatest", sorted.Of(p("a", 9), p("b", 5), p("a", 1), p("b", 4)), p("a", 1), p("b", 4))
	holds(t, "one key alone", sorted.Of(p("a", 3), p("a", 2), p("a", 7)), p("a", 7))
	holds(t, "texts as bytes", sorted.Of(p("é", 1), p("z", 2), p("", 3), p("Z", 4), p("zz", 5)),
		p("", 3), p("Z", 4), p("z", 2), p("zz", 5), p("é", 1))
}

func TestOfTakesTheLastOfMany(t *testing.T) {
	var l []pair
	for i := range 300 {
		l = append(l, p(string(rune('a'+i*7%5)), i))
	}
	holds(t, "many", sorted.Of(l...), p("a", 295), p("b", 298), p("c", 296), p("d", 299), p("e", 297))
}

func TestOfLeavesItsList(t *testing.T) {
	room := []pair{p("c", 1), p("a", 2), p("b", 3), p("x", 7), p("y", 8)}
	was := slices.Clone(room)
	m := sorted.Of(room[:3]...)
	m.Put("d", 4)
	if !slices.Equal(room, was) {
		t.Error("the list that was handed in, or its spare room, is changed:", room)
	}
	clear(room)
	holds(t, "its list changed later", m, p("a", 2), p("b", 3), p("c", 1))
}

func TestGet(t *testing.T) {
	m := sorted.Of(p("b", 2), p("d", 0))
	if v, ok := m.Get("d"); v != 0 || !ok {
		t.Error("a value of 0:", v, ok)
	}
	for _, k := range []string{"", "a", "ba", "c", "e"} {
		if v, ok := m.Get(k); v != 0 || ok {
			t.Errorf("Get(%q), of none: %d %v", k, v, ok)
		}
	}
}

func TestPut(t *testing.T) {
	m := sorted.Of(p("b", 2), p("d", 4))
	holds(t, "ahead", m.Put("a", 1), p("a", 1), p("b", 2), p("d", 4))
	holds(t, "between", m.Put("c", 3), p("b", 2), p("c", 3), p("d", 4))
	holds(t, "behind", m.Put("e", 5), p("b", 2), p("d", 4), p("e", 5))
	holds(t, "the first one anew", m.Put("b", 9), p("b", 9), p("d", 4))
	holds(t, "the last one anew", m.Put("d", 9), p("b", 2), p("d", 9))
	holds(t, "no text", m.Put("", 9), p("", 9), p("b", 2), p("d", 4))
	holds(t, "as it was", m, p("b", 2), p("d", 4))
}

func TestDel(t *testing.T) {
	m := abc()
	holds(t, "the first one", m.Del("a"), p("b", 2), p("c", 3))
	holds(t, "one between", m.Del("b"), p("a", 1), p("c", 3))
	holds(t, "the last one", m.Del("c"), p("a", 1), p("b", 2))
	holds(t, "all", m.Del("b").Del("a").Del("c"))
	for _, k := range []string{"", "aa", "d"} {
		holds(t, "of none: "+k, m.Del(k), p("a", 1), p("b", 2), p("c", 3))
	}
	holds(t, "as it was", m, p("a", 1), p("b", 2), p("c", 3))
}

func TestFrom(t *testing.T) {
	m := sorted.Of(p("b", 1), p("d", 2), p("f", 3))
	for _, c := range []struct {
		k     string
		first int
	}{{"", 0}, {"a", 0}, {"b", 0}, {"ba", 1}, {"c", 1}, {"d", 1}, {"e", 2}, {"f", 2}, {"fa", 3}, {"g", 3}} {
		if got := m.From(c.k); !slices.Equal(got, m.All()[c.first:]) {
			t.Errorf("From(%q): %v", c.k, got)
		}
	}
}

func TestCut(t *testing.T) {
	m := abc()
	all := m.All()
	for n, want := range map[int]int{math.MinInt: 0, -1: 0, 0: 0, 1: 1, 2: 2, 3: 3, 4: 3, math.MaxInt: 3} {
		holds(t, "Cut", m.Cut(n), all[:want]...)
	}
	holds(t, "as it was", m, all...)
}

// A map that was made of another one must not write into what that one has.
func TestMapsStandAlone(t *testing.T) {
	m := abc()
	cut := m.Cut(1)
	holds(t, "behind the cut", cut.Put("z", 9), p("a", 1), p("z", 9))
	x, y := cut.Put("x", 1), cut.Put("y", 2)
	holds(t, "one branch", x, p("a", 1), p("x", 1))
	holds(t, "the other branch", y, p("a", 1), p("y", 2))
	shorter := m.Del("c")
	holds(t, "put behind what was deleted", shorter.Put("d", 4), p("a", 1), p("b", 2), p("d", 4))
	holds(t, "as it was", m, p("a", 1), p("b", 2), p("c", 3))
}

// What is handed out is new memory, its spare room too.
func TestListsStandAlone(t *testing.T) {
	m := abc()
	for _, l := range [][]pair{m.All(), m.From("a"), m.From("b"), m.Cut(2).All(), m.Cut(1).From("a")} {
		clear(l[:cap(l)])
		_ = append(l[:0], p("q", 7), p("q", 8), p("q", 9))
		holds(t, "behind a change of what it told", m, p("a", 1), p("b", 2), p("c", 3))
	}
	one, two := m.All(), m.All()
	clear(one)
	if !slices.Equal(two, m.All()) {
		t.Error("two lists share memory")
	}
}

func TestZeroMap(t *testing.T) {
	var m list
	holds(t, "the zero Map", m)
	if v, ok := m.Get(""); v != 0 || ok {
		t.Error(v, ok)
	}
	if l := m.From(""); len(l) != 0 {
		t.Error(l)
	}
	holds(t, "Del", m.Del("a"))
	holds(t, "Cut", m.Cut(2))
	holds(t, "Put", m.Put("b", 1).Put("a", 2), p("a", 2), p("b", 1))
	holds(t, "as it was", m)
}

// told is a both that keeps how it was called.
type told struct{ calls [][2]int }

func (c *told) both(x, y int) int {
	c.calls = append(c.calls, [2]int{x, y})
	return 100*x + y
}

func TestMerge(t *testing.T) {
	a := sorted.Of(p("a", 1), p("c", 2), p("d", 3), p("f", 4))
	b := sorted.Of(p("b", 5), p("c", 6), p("d", 7), p("e", 8), p("g", 9))
	for _, c := range []struct {
		what  string
		a, b  list
		calls [][2]int
		want  []pair
	}{
		{"a, b", a, b, [][2]int{{2, 6}, {3, 7}}, []pair{p("a", 1), p("b", 5), p("c", 206), p("d", 307), p("e", 8), p("f", 4), p("g", 9)}},
		{"b, a", b, a, [][2]int{{6, 2}, {7, 3}}, []pair{p("a", 1), p("b", 5), p("c", 602), p("d", 703), p("e", 8), p("f", 4), p("g", 9)}},
		{"a, a", a, a, [][2]int{{1, 1}, {2, 2}, {3, 3}, {4, 4}}, []pair{p("a", 101), p("c", 202), p("d", 303), p("f", 404)}},
		{"a, none", a, list{}, nil, a.All()},
		{"none, b", list{}, b, nil, b.All()},
		{"none, none", list{}, list{}, nil, nil},
		{"all ahead", a.Cut(1), b, nil, append([]pair{p("a", 1)}, b.All()...)},
		{"all behind", b, a.Cut(1), nil, append([]pair{p("a", 1)}, b.All()...)},
	} {
		var tell told
		holds(t, c.what, sorted.Merge(c.a, c.b, tell.both), c.want...)
		if !slices.Equal(tell.calls, c.calls) {
			t.Errorf("%s: both was called with %v, want %v", c.what, tell.calls, c.calls)
		}
	}
	holds(t, "a as it was", a, p("a", 1), p("c", 2), p("d", 3), p("f", 4))
	holds(t, "b as it was", b, p("b", 5), p("c", 6), p("d", 7), p("e", 8), p("g", 9))
}

func TestMergeWithoutBoth(t *testing.T) {
	a, b := sorted.Of(p("a", 1), p("b", 2)), sorted.Of(p("b", 3), p("c", 4))
	holds(t, "b's", sorted.Merge(a, b, nil), p("a", 1), p("b", 3), p("c", 4))
	holds(t, "b's, the other way", sorted.Merge(b, a, nil), p("a", 1), p("b", 2), p("c", 4))
}

func TestMergeStandsAlone(t *testing.T) {
	a, b := abc(), sorted.Of(p("d", 4))
	for _, m := range []list{sorted.Merge(a, list{}, nil), sorted.Merge(list{}, a, nil), sorted.Merge(a, b, nil)} {
		l := m.Put("a", 9).Del("b").All()
		clear(l[:cap(l)])
		holds(t, "a as it was", a, p("a", 1), p("b", 2), p("c", 3))
		holds(t, "b as it was", b, p("d", 4))
	}
}

// No call panics, at all arguments: a both that does ends within Merge.
func TestMergeOfABothThatPanics(t *testing.T) {
	m := abc()
	holds(t, "nothing is merged", sorted.Merge(m, m, func(x, y int) int {
		if x == 2 {
			panic("two")
		}
		return x
	}))
	holds(t, "as it was", m, p("a", 1), p("b", 2), p("c", 3))
}

// Values are kept and told as they are, whatever they share.
func TestValuesAsTheyAre(t *testing.T) {
	v, w := new(int), new(int)
	m := sorted.Of(sorted.Pair[int8, *int]{Key: 1, V: v}).Put(-1, w)
	if l := m.All(); len(l) != 2 || l[0].V != w || l[1].V != v {
		t.Error("All:", l)
	}
	if got, ok := m.Get(1); got != v || !ok {
		t.Error("Get:", got, ok)
	}
	m = sorted.Merge(m, m, func(x, y *int) *int {
		if x != y {
			t.Error("both is told other values")
		}
		return x
	})
	if l := m.From(-1); len(l) != 2 || l[0].V != w || l[1].V != v {
		t.Error("Merge:", l)
	}
	m = m.Put(1, nil)
	if got, ok := m.Get(1); got != nil || !ok {
		t.Error("a nil value:", got, ok)
	}
}

func risesAs[K cmp.Ordered](t *testing.T, want ...K) {
	t.Helper()
	var m sorted.Map[K, struct{}]
	for i := range want {
		m = m.Put(want[(i*3+1)%len(want)], struct{}{})
	}
	var got []K
	for _, x := range m.All() {
		got = append(got, x.Key)
	}
	if !slices.Equal(got, want) {
		t.Error(got)
	}
}

func TestWhateverKeys(t *testing.T) {
	risesAs[int64](t, math.MinInt64, -1, 0, 1, math.MaxInt64)
	risesAs[uint64](t, 0, 1, 1<<63, math.MaxUint64)
	risesAs[byte](t, 0, 1, 128, 255)
	risesAs(t, math.Inf(-1), -1.5, 0, math.SmallestNonzeroFloat64, math.Inf(1))
	type name string
	risesAs[name](t, "", "\x00", "a", "a\x00", "b")
}

// The chapter promises nothing of a key that isn't like itself, but each call ends and none panics.
func TestKeysThatAreNotLikeThemselves(t *testing.T) {
	nan := math.NaN()
	m := sorted.Of(sorted.Pair[float64, int]{Key: nan, V: 1}, sorted.Pair[float64, int]{Key: 1, V: 2})
	m = sorted.Merge(m.Put(nan, 3), m.Del(nan), nil)
	m.Get(nan)
	m.From(nan)
	m.Cut(1).All()
}

// many answers keys and values by a short rule, so that each run has the same.
func many(seed, n int) []pair {
	var l []pair
	for i := range n {
		seed = (seed*1103 + 12345) % 65536
		l = append(l, p(string(rune('a'+seed%23))+string(rune('a'+seed/23%2)), i))
	}
	return l
}

func pairsOf(m map[string]int) []pair {
	var l []pair
	for _, k := range slices.Sorted(maps.Keys(m)) {
		l = append(l, p(k, m[k]))
	}
	return l
}

func TestAgainstAPlainMap(t *testing.T) {
	for seed := range 40 {
		var m list
		plain := map[string]int{}
		for i, x := range many(seed, 100) {
			if i%3 == 2 {
				m = m.Del(x.Key)
				delete(plain, x.Key)
			} else {
				m = m.Put(x.Key, x.V)
				plain[x.Key] = x.V
			}
		}
		holds(t, "Put and Del", m, pairsOf(plain)...)

		l := many(seed+1000, 60)
		other := map[string]int{}
		for _, x := range l {
			other[x.Key] = x.V
		}
		b := sorted.Of(l...)
		holds(t, "Of", b, pairsOf(other)...)

		joined := maps.Clone(plain)
		for k, v := range other {
			joined[k] += v
		}
		holds(t, "Merge", sorted.Merge(m, b, func(x, y int) int { return x + y }), pairsOf(joined)...)
	}
}
