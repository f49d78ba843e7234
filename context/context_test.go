package context_test

import (
	"math"
	"slices"
	"testing"

	"tributary/api"
	"tributary/context"
	"tributary/span"
)

// most is the greatest number that a dot may have.
const most = int64(api.MaxDot)

// holds asks for a context, just as it is.
func holds(t *testing.T, what string, got api.Ctx, want ...api.Span) {
	t.Helper()
	if !slices.Equal(got, want) {
		t.Errorf("%s: %v, want %v", what, got, want)
	}
}

// rights answers contexts, from none to all that there are.
func rights() []api.Ctx {
	return []api.Ctx{
		nil,
		{},
		{{DC: 0, From: 1, To: 1}},
		{{DC: 0, From: 1, To: 2}, {DC: 1, From: 5, To: 5}},
		{{DC: 3, From: 1, To: 1}},
		{{DC: 3, From: most, To: most}},
		{{DC: 2, From: 2, To: 3}, {DC: 2, From: 5, To: 5}, {DC: 2, From: 1 << 32, To: 1<<32 + 2}},
		{{DC: 0, From: 9, To: 12}, {DC: 1, From: 4, To: 6}, {DC: 3, From: 1, To: 3}},
		{{DC: 0, From: 1, To: 3}, {DC: 0, From: 5, To: 5}, {DC: 1, From: 2, To: 2}, {DC: 2, From: 1, To: 9}, {DC: 3, From: 3, To: 3}, {DC: 3, From: 5, To: 6}},
		{{DC: 1, From: 1, To: most - 2}, {DC: 1, From: most, To: most}, {DC: 2, From: 1, To: 1}},
		{{DC: 0, From: 1, To: 2}, {DC: 2, From: 1, To: 4}},
		{{DC: 0, From: 1, To: most}, {DC: 1, From: 1, To: most}, {DC: 2, From: 1, To: most}, {DC: 3, From: 1, To: most}},
	}
}

// wrongs answers contexts that aren't right, each for one cause.
func wrongs() map[string]api.Ctx {
	return map[string]api.Ctx{
		"the zero span":              {{}},
		"a center below 0":           {{DC: -1, From: 1, To: 1}},
		"a center far below 0":       {{DC: math.MinInt, From: 1, To: 1}},
		"a center above the last":    {{DC: 4, From: 1, To: 1}},
		"a center far above":         {{DC: math.MaxInt, From: 1, To: 1}},
		"the last center is none":    {{DC: 0, From: 1, To: 2}, {DC: 3, From: 1, To: 2}, {DC: 4, From: 1, To: 2}},
		"the centers fall":           {{DC: 1, From: 1, To: 1}, {DC: 0, From: 1, To: 1}},
		"the last center falls":      {{DC: 0, From: 1, To: 1}, {DC: 3, From: 1, To: 1}, {DC: 2, From: 1, To: 1}},
		"a center comes again":       {{DC: 0, From: 1, To: 1}, {DC: 1, From: 1, To: 1}, {DC: 0, From: 3, To: 3}},
		"to below 0 behind a center": {{DC: 0, From: 1, To: 1}, {DC: -1, From: 1, To: 1}},
		"from 0":                     {{DC: 0, From: 0, To: 1}},
		"from below 0":               {{DC: 2, From: -3, To: 4}},
		"from far below 0":           {{DC: 2, From: math.MinInt64, To: math.MaxInt64}},
		"falls":                      {{DC: 0, From: 2, To: 1}},
		"falls far":                  {{DC: 3, From: most, To: 1}},
		"to above MaxDot":            {{DC: 0, From: 1, To: most + 1}},
		"from above MaxDot":          {{DC: 1, From: most + 1, To: most + 1}},
		"to the greatest number":     {{DC: 1, From: 1, To: math.MaxInt64}},
		"no gap":                     {{DC: 0, From: 1, To: 1}, {DC: 0, From: 2, To: 2}},
		"no gap at the last center":  {{DC: 0, From: 1, To: 1}, {DC: 3, From: 1, To: 2}, {DC: 3, From: 3, To: 4}},
		"one span twice":             {{DC: 1, From: 1, To: 2}, {DC: 1, From: 1, To: 2}},
		"one number twice":           {{DC: 1, From: 1, To: 2}, {DC: 1, From: 2, To: 4}},
		"the numbers fall":           {{DC: 1, From: 4, To: 4}, {DC: 1, From: 1, To: 2}},
		"the first center's is not":  {{DC: 0, From: 0, To: 2}, {DC: 1, From: 1, To: 2}, {DC: 2, From: 1, To: 2}},
		"the second center's is not": {{DC: 0, From: 1, To: 2}, {DC: 1, From: 3, To: 2}, {DC: 2, From: 1, To: 2}},
		"behind the greatest number": {{DC: 0, From: 1, To: math.MaxInt64}, {DC: 0, From: 3, To: 4}},
		"no dot, and one that is":    {{DC: 0, From: 1, To: 1}, {DC: 1}},
	}
}

func TestRight(t *testing.T) {
	for _, c := range rights() {
		if !context.Right(c) {
			t.Errorf("Right(%v): false", c)
		}
	}
	for what, c := range wrongs() {
		if context.Right(c) {
			t.Errorf("Right(%v): true: %s", c, what)
		}
	}
}

// of asks Of for a context.
func of(t *testing.T, l []api.Dot, want ...api.Span) {
	t.Helper()
	c, e := context.Of(l...)
	if e != api.OK {
		t.Errorf("Of %v: %v", l, e)
	}
	holds(t, "Of", c, want...)
}

func TestOf(t *testing.T) {
	of(t, nil)
	of(t, []api.Dot{})
	of(t, []api.Dot{{DC: 3, N: 7}}, api.Span{DC: 3, From: 7, To: 7})
	// The chapter's example, in two orders, and one dot twice.
	two := []api.Span{{DC: 0, From: 1, To: 2}, {DC: 1, From: 5, To: 5}}
	of(t, []api.Dot{{DC: 0, N: 1}, {DC: 0, N: 2}, {DC: 1, N: 5}}, two...)
	of(t, []api.Dot{{DC: 1, N: 5}, {DC: 0, N: 2}, {DC: 1, N: 5}, {DC: 0, N: 1}}, two...)
	// A number of one center fills no gap of another one.
	of(t, []api.Dot{{DC: 1, N: 1}, {DC: 0, N: 2}, {DC: 1, N: 3}},
		api.Span{DC: 0, From: 2, To: 2}, api.Span{DC: 1, From: 1, To: 1}, api.Span{DC: 1, From: 3, To: 3})
	of(t, []api.Dot{{DC: 3, N: most}, {DC: 2, N: 1}, {DC: 0, N: most - 1}, {DC: 0, N: most}, {DC: 1, N: 1 << 32}},
		api.Span{DC: 0, From: most - 1, To: most}, api.Span{DC: 1, From: 1 << 32, To: 1 << 32},
		api.Span{DC: 2, From: 1, To: 1}, api.Span{DC: 3, From: most, To: most})
}

// wrongDots answers dots that aren't right.
func wrongDots() []api.Dot {
	return []api.Dot{
		{}, {DC: 3}, {DC: 1, N: -1}, {DC: 1, N: math.MinInt64}, {DC: 2, N: most + 1}, {DC: 0, N: math.MaxInt64},
		{DC: -1, N: 1}, {DC: 4, N: 1}, {DC: math.MinInt, N: 1}, {DC: math.MaxInt, N: most}, {DC: 9, N: -9},
	}
}

func TestOfWrongDots(t *testing.T) {
	good := api.Dot{DC: 0, N: 3}
	for _, d := range wrongDots() {
		for _, l := range [][]api.Dot{{d}, {d, good}, {good, d}, {good, d, good}, {d, d}} {
			if c, e := context.Of(l...); e != api.ErrArg || len(c) != 0 {
				t.Errorf("Of %v: %v %v", l, c, e)
			}
		}
	}
}

func TestOfMany(t *testing.T) {
	var l []api.Dot
	for i := range int64(3000) {
		l = append(l, api.Dot{DC: 2, N: i*7%3000 + 1}, api.Dot{DC: 1, N: 2*(i*11%3000) + 1})
	}
	c, e := context.Of(l...)
	if e != api.OK || len(c) != 3001 || !context.Right(c) || context.Count(c) != 6000 {
		t.Fatal(len(c), e)
	}
	if c[0] != (api.Span{DC: 1, From: 1, To: 1}) || c[2999] != (api.Span{DC: 1, From: 5999, To: 5999}) || c[3000] != (api.Span{DC: 2, From: 1, To: 3000}) {
		t.Error(c[0], c[2999], c[3000])
	}
}

func TestRange(t *testing.T) {
	for dc := range api.MaxDC {
		for _, n := range [][2]int64{{1, 1}, {3, 5}, {1, most}, {most, most}, {most - 1, most}, {1<<31 - 1, 1 << 32}} {
			c, e := context.Range(dc, n[0], n[1])
			if e != api.OK || !context.Right(c) {
				t.Errorf("Range(%d, %d, %d): %v", dc, n[0], n[1], e)
			}
			holds(t, "Range", c, api.Span{DC: dc, From: n[0], To: n[1]})
		}
		for _, n := range [][2]int64{{2, 1}, {most, 1}, {most, most - 1}, {5, 3}} {
			if c, e := context.Range(dc, n[0], n[1]); e != api.OK || len(c) != 0 {
				t.Errorf("Range(%d, %d, %d): %v %v", dc, n[0], n[1], c, e)
			}
		}
	}
}

// noRange asks Range for ErrArg, and nothing beside it.
func noRange(t *testing.T, dc int, from, to int64) {
	t.Helper()
	if c, e := context.Range(dc, from, to); e != api.ErrArg || len(c) != 0 {
		t.Errorf("Range(%d, %d, %d): %v %v", dc, from, to, c, e)
	}
}

func TestRangeOfWrongDots(t *testing.T) {
	for _, d := range wrongDots() {
		noRange(t, d.DC, d.N, d.N)
		noRange(t, d.DC, d.N, 3)
		// Where there would be none, too.
		noRange(t, d.DC, 3, d.N)
		noRange(t, d.DC, most, d.N)
	}
}

func TestHas(t *testing.T) {
	c := api.Ctx{{DC: 0, From: 1, To: 2}, {DC: 0, From: 4, To: 4}, {DC: 1, From: 5, To: 5}, {DC: 3, From: 1 << 32, To: most}}
	for _, d := range []api.Dot{{DC: 0, N: 1}, {DC: 0, N: 2}, {DC: 0, N: 4}, {DC: 1, N: 5}, {DC: 3, N: 1 << 32}, {DC: 3, N: 1<<39 + 1}, {DC: 3, N: most}} {
		if !context.Has(c, d) {
			t.Errorf("Has of %v: false", d)
		}
	}
	none := []api.Dot{{DC: 0, N: 3}, {DC: 0, N: 5}, {DC: 1, N: 1}, {DC: 1, N: 4}, {DC: 1, N: 6}, {DC: 2, N: 1}, {DC: 2, N: 5}, {DC: 3, N: 1}, {DC: 3, N: 1<<32 - 1}}
	for _, d := range slices.Concat(none, wrongDots()) {
		if context.Has(c, d) {
			t.Errorf("Has of %v: true", d)
		}
		if context.Has(nil, d) || context.Has(api.Ctx{}, d) {
			t.Errorf("the context of none has %v", d)
		}
	}
}

func TestSolidVectorAndCount(t *testing.T) {
	for _, c := range []struct {
		c     api.Ctx
		solid bool
		v     api.Vector
		count int64
	}{
		{nil, true, api.Vector{}, 0},
		{api.Ctx{}, true, api.Vector{}, 0},
		{api.Ctx{{DC: 0, From: 1, To: 2}, {DC: 1, From: 5, To: 5}}, false, api.Vector{2}, 3},
		{api.Ctx{{DC: 0, From: 1, To: 2}, {DC: 1, From: 1, To: 5}}, true, api.Vector{2, 5}, 7},
		{api.Ctx{{DC: 3, From: 1, To: 1}}, true, api.Vector{0, 0, 0, 1}, 1},
		{api.Ctx{{DC: 3, From: 2, To: 2}}, false, api.Vector{}, 1},
		{api.Ctx{{DC: 2, From: most, To: most}}, false, api.Vector{}, 1},
		// A gap behind the front: the vector tells of the front alone.
		{api.Ctx{{DC: 1, From: 1, To: 3}, {DC: 1, From: 5, To: 9}}, false, api.Vector{0, 3}, 8},
		{api.Ctx{{DC: 0, From: 1, To: 4}, {DC: 3, From: 1, To: 1}, {DC: 3, From: 3, To: 3}}, false, api.Vector{4, 0, 0, 1}, 6},
		{api.Ctx{{DC: 0, From: 2, To: 4}, {DC: 3, From: 1, To: 9}}, false, api.Vector{0, 0, 0, 9}, 12},
		{api.Ctx{{DC: 1, From: 1, To: most - 2}, {DC: 1, From: most, To: most}, {DC: 2, From: 1, To: 1}}, false, api.Vector{0, most - 2, 1}, most},
		{api.Ctx{{DC: 0, From: 1, To: most}, {DC: 1, From: 1, To: most}, {DC: 2, From: 1, To: most}, {DC: 3, From: 1, To: most}},
			true, api.Vector{most, most, most, most}, 4 * most},
	} {
		if got := context.Solid(c.c); got != c.solid {
			t.Errorf("Solid(%v): %v", c.c, got)
		}
		if got := context.Vector(c.c); got != c.v {
			t.Errorf("Vector(%v): %v, want %v", c.c, got, c.v)
		}
		if got := context.Count(c.c); got != c.count {
			t.Errorf("Count(%v): %d, want %d", c.c, got, c.count)
		}
	}
}

func TestFull(t *testing.T) {
	for _, c := range []struct {
		v    api.Vector
		want api.Ctx
	}{
		{api.Vector{}, nil},
		{api.Vector{3, 0, 2, 0}, api.Ctx{{DC: 0, From: 1, To: 3}, {DC: 2, From: 1, To: 2}}},
		{api.Vector{0, 0, 0, 1}, api.Ctx{{DC: 3, From: 1, To: 1}}},
		{api.Vector{1 << 32, most, 0, most - 1}, api.Ctx{{DC: 0, From: 1, To: 1 << 32}, {DC: 1, From: 1, To: most}, {DC: 3, From: 1, To: most - 1}}},
	} {
		got, e := context.Full(c.v)
		if e != api.OK || !context.Solid(got) || context.Vector(got) != c.v {
			t.Errorf("Full(%v): %v, Solid %v, Vector %v", c.v, e, context.Solid(got), context.Vector(got))
		}
		holds(t, "Full", got, c.want...)
	}
	for _, n := range []int64{math.MinInt64, -most, -1, most + 1, math.MaxInt64} {
		for dc := range api.MaxDC {
			v := api.Vector{1, 2, 3, 4}
			v[dc] = n
			if c, e := context.Full(v); e != api.ErrArg || len(c) != 0 {
				t.Errorf("Full(%v): %v %v", v, c, e)
			}
		}
	}
}

// The solid ones are just those that Full makes of their vector.
func TestSolidIsFullOfItsVector(t *testing.T) {
	for _, c := range rights() {
		full, e := context.Full(context.Vector(c))
		if e != api.OK || context.Solid(c) != slices.Equal(c, full) || !context.Leq(full, c) {
			t.Errorf("%v: Full of its vector is %v %v, Solid %v", c, full, e, context.Solid(c))
		}
	}
}

// three asks Union, Meet and Minus, and what hangs on them: Leq and Same.
func three(t *testing.T, a, b, union, meet, minus api.Ctx) {
	t.Helper()
	holds(t, "Union", context.Union(a, b), union...)
	holds(t, "Meet", context.Meet(a, b), meet...)
	holds(t, "Minus", context.Minus(a, b), minus...)
	if context.Leq(a, b) != (len(minus) == 0) {
		t.Errorf("Leq(%v, %v): %v", a, b, context.Leq(a, b))
	}
	if context.Same(a, b) != slices.Equal(a, b) {
		t.Errorf("Same(%v, %v): %v", a, b, context.Same(a, b))
	}
}

func TestUnionMeetMinusByHand(t *testing.T) {
	a := api.Ctx{{DC: 0, From: 1, To: 9}, {DC: 1, From: 1, To: 2}, {DC: 3, From: 4, To: 4}}
	b := api.Ctx{{DC: 0, From: 3, To: 4}, {DC: 0, From: 10, To: 12}, {DC: 2, From: 5, To: 5}, {DC: 3, From: 4, To: 6}}
	union := api.Ctx{{DC: 0, From: 1, To: 12}, {DC: 1, From: 1, To: 2}, {DC: 2, From: 5, To: 5}, {DC: 3, From: 4, To: 6}}
	meet := api.Ctx{{DC: 0, From: 3, To: 4}, {DC: 3, From: 4, To: 4}}
	three(t, a, b, union, meet, api.Ctx{{DC: 0, From: 1, To: 2}, {DC: 0, From: 5, To: 9}, {DC: 1, From: 1, To: 2}})
	three(t, b, a, union, meet, api.Ctx{{DC: 0, From: 10, To: 12}, {DC: 2, From: 5, To: 5}, {DC: 3, From: 5, To: 6}})
	// The same numbers of two centers have no dot in common.
	x, y := api.Ctx{{DC: 1, From: 1, To: 3}}, api.Ctx{{DC: 2, From: 1, To: 3}}
	three(t, x, y, slices.Concat(x, y), nil, x)
	three(t, y, x, slices.Concat(x, y), nil, y)
	// What touches within a center is one span, from a center to the next one it is two.
	three(t, api.Ctx{{DC: 0, From: 1, To: 2}}, api.Ctx{{DC: 0, From: 3, To: 4}}, api.Ctx{{DC: 0, From: 1, To: 4}}, nil, api.Ctx{{DC: 0, From: 1, To: 2}})
	three(t, api.Ctx{{DC: 0, From: 1, To: most}}, api.Ctx{{DC: 1, From: 1, To: 1}},
		api.Ctx{{DC: 0, From: 1, To: most}, {DC: 1, From: 1, To: 1}}, nil, api.Ctx{{DC: 0, From: 1, To: most}})
	// Gaps that are filled, and cut.
	odd := api.Ctx{{DC: 3, From: 1, To: 1}, {DC: 3, From: 3, To: 3}, {DC: 3, From: 5, To: 5}}
	even := api.Ctx{{DC: 3, From: 2, To: 2}, {DC: 3, From: 4, To: 4}}
	all := api.Ctx{{DC: 3, From: 1, To: 5}}
	three(t, odd, even, all, nil, odd)
	three(t, all, even, all, even, odd)
	three(t, even, all, all, even, nil)
}

func TestWithNoneAndWithItself(t *testing.T) {
	for _, c := range rights() {
		three(t, c, c, c, c, nil)
		for _, none := range []api.Ctx{nil, {}} {
			three(t, c, none, c, nil, c)
			three(t, none, c, c, nil, nil)
			if context.Same(c, none) != (len(c) == 0) || context.Same(none, c) != (len(c) == 0) {
				t.Errorf("Same of %v and none", c)
			}
		}
	}
}

func TestSame(t *testing.T) {
	for i, a := range rights() {
		for j, b := range rights() {
			// The first two have no dots: nil and empty mean the same.
			if got, want := context.Same(a, b), i == j || i+j == 1; got != want {
				t.Errorf("Same(%v, %v): %v", a, b, got)
			}
		}
	}
	c := api.Ctx{{DC: 0, From: 1, To: 2}, {DC: 2, From: 5, To: 7}}
	for _, o := range []api.Ctx{
		{{DC: 0, From: 1, To: 2}}, {{DC: 0, From: 1, To: 2}, {DC: 1, From: 5, To: 7}}, {{DC: 0, From: 1, To: 2}, {DC: 2, From: 5, To: 8}},
		{{DC: 0, From: 1, To: 2}, {DC: 2, From: 4, To: 7}}, {{DC: 0, From: 1, To: 2}, {DC: 2, From: 5, To: 7}, {DC: 3, From: 1, To: 1}},
	} {
		if context.Same(c, o) || context.Same(o, c) {
			t.Errorf("%v and %v are the same", c, o)
		}
	}
	if !context.Same(c, slices.Clone(c)) {
		t.Errorf("%v isn't the same", c)
	}
}

// nothing asks all calls that take two contexts for zero.
func nothing(t *testing.T, what string, a, b api.Ctx) {
	t.Helper()
	if u, m, x := context.Union(a, b), context.Meet(a, b), context.Minus(a, b); len(u)+len(m)+len(x) != 0 {
		t.Errorf("%s: of %v and %v: %v, %v, %v", what, a, b, u, m, x)
	}
	if context.Leq(a, b) || context.Same(a, b) {
		t.Errorf("%s: of %v and %v: Leq %v, Same %v", what, a, b, context.Leq(a, b), context.Same(a, b))
	}
}

func TestOfWrongContexts(t *testing.T) {
	for what, c := range wrongs() {
		for _, r := range rights() {
			nothing(t, what, c, r)
			nothing(t, what, r, c)
		}
		for _, other := range wrongs() {
			nothing(t, what, c, other)
		}
		nothing(t, what, c, c)
		if context.Solid(c) || context.Vector(c) != (api.Vector{}) || context.Count(c) != 0 {
			t.Errorf("%s: Solid %v, Vector %v, Count %d", what, context.Solid(c), context.Vector(c), context.Count(c))
		}
		for _, s := range c {
			for _, n := range []int64{1, s.From, s.To} {
				if context.Has(c, api.Dot{DC: s.DC, N: n}) {
					t.Errorf("%s: %v has number %d of %d", what, c, n, s.DC)
				}
			}
		}
	}
}

// The sets of eight dots: four numbers behind base of each of two centers.
type eight struct {
	centers [2]int
	base    int64
}

// dot answers the i-th of them.
func (k eight) dot(i int) api.Dot { return api.Dot{DC: k.centers[i/4], N: k.base + int64(i%4) + 1} }

// set answers the context of those that the bits tell, made without package context.
func (k eight) set(bits int) api.Ctx {
	var c api.Ctx
	for i := range 8 {
		if bits>>i&1 == 0 {
			continue
		}
		d := k.dot(i)
		if i%4 > 0 && bits>>(i-1)&1 == 1 {
			c[len(c)-1].To = d.N
		} else {
			c = append(c, api.Span{DC: d.DC, From: d.N, To: d.N})
		}
	}
	return c
}

// All sets of eight dots, and all pairs of them, held against bits: P7.2's words are those of sets.
func TestAgainstBits(t *testing.T) {
	for _, k := range []eight{{[2]int{0, 1}, 0}, {[2]int{0, 3}, 1}, {[2]int{1, 2}, 1<<32 - 2}, {[2]int{2, 3}, most - 4}} {
		var sets [256]api.Ctx
		for x := range sets {
			sets[x] = k.set(x)
		}
		for x, a := range sets {
			var l []api.Dot
			for i := range 8 {
				has := x>>i&1 == 1
				if has {
					l = append(l, k.dot(i))
				}
				if context.Has(a, k.dot(i)) != has {
					t.Fatalf("Has(%v, %v): %v", a, k.dot(i), !has)
				}
			}
			slices.Reverse(l)
			of(t, l, a...)
			if !context.Right(a) || context.Count(a) != int64(len(l)) {
				t.Fatalf("%v: Right %v, Count %d", a, context.Right(a), context.Count(a))
			}
			for y, b := range sets {
				three(t, a, b, sets[x|y], sets[x&y], sets[x&^y])
			}
			if t.Failed() {
				return
			}
		}
	}
}

// Of each center alone the three are layer 6's.
func TestOfEachCenterAsLayer6(t *testing.T) {
	runs := func(c api.Ctx, dc int) []span.Run {
		var l []span.Run
		for _, s := range c {
			if s.DC == dc {
				l = append(l, span.Run{s.From, s.To})
			}
		}
		return l
	}
	for _, a := range rights() {
		for _, b := range rights() {
			u, m, x := context.Union(a, b), context.Meet(a, b), context.Minus(a, b)
			for dc := range api.MaxDC {
				p, q := runs(a, dc), runs(b, dc)
				if !slices.Equal(runs(u, dc), span.Union(p, q)) || !slices.Equal(runs(m, dc), span.Meet(p, q)) || !slices.Equal(runs(x, dc), span.Minus(p, q)) {
					t.Errorf("of %v and %v, center %d: %v, %v, %v", a, b, dc, u, m, x)
				}
				if context.Vector(a)[dc] != span.Front(p) {
					t.Errorf("Vector(%v): %v", a, context.Vector(a))
				}
			}
			if !context.Right(u) || !context.Right(m) || !context.Right(x) {
				t.Errorf("of %v and %v: %v, %v, %v", a, b, u, m, x)
			}
		}
	}
}

// What is handed in stays as it is, its spare room too, and what is answered is new memory.
func TestContextsStandAlone(t *testing.T) {
	room := api.Ctx{{DC: 0, From: 1, To: 2}, {DC: 1, From: 4, To: 4}, {DC: 1, From: 7, To: 9}, {DC: 3, From: 2, To: 2}, {DC: 9, From: 9, To: 1}}
	other := api.Ctx{{DC: 0, From: 3, To: 3}, {DC: 1, From: 8, To: 12}, {DC: 0, From: 0, To: 0}}
	dots := []api.Dot{{DC: 1, N: 4}, {DC: 0, N: 2}, {DC: 0, N: 1}, {DC: 7, N: 7}, {DC: 0, N: 9}}
	wasRoom, wasOther, wasDots := slices.Clone(room), slices.Clone(other), slices.Clone(dots)
	first := func(c api.Ctx, _ api.Errno) api.Ctx { return c }
	calls := map[string]func() api.Ctx{
		"Of":               func() api.Ctx { return first(context.Of(dots[:3]...)) },
		"Range":            func() api.Ctx { return first(context.Range(2, 3, 5)) },
		"Full":             func() api.Ctx { return first(context.Full(api.Vector{1, 2, 0, 3})) },
		"Union":            func() api.Ctx { return context.Union(room[:4], other[:2]) },
		"Union of itself":  func() api.Ctx { return context.Union(room[:4], room[:4]) },
		"Union with none":  func() api.Ctx { return context.Union(room[:4], nil) },
		"Union from none":  func() api.Ctx { return context.Union(nil, other[:2]) },
		"Union of nothing": func() api.Ctx { return context.Union(room[:0], other[:0]) },
		"Meet":             func() api.Ctx { return context.Meet(room[:4], other[:2]) },
		"Meet of itself":   func() api.Ctx { return context.Meet(room[:4], room[:4]) },
		"Minus":            func() api.Ctx { return context.Minus(other[:2], room[:4]) },
		"Minus with none":  func() api.Ctx { return context.Minus(room[:4], nil) },
		"Minus afar":       func() api.Ctx { return context.Minus(room[3:4], other[:2]) },
	}
	for what, call := range calls {
		got := call()
		want := slices.Clone(got)
		clear(got[:cap(got)])
		_ = append(got[:0], api.Span{DC: -1}, api.Span{DC: -2}, api.Span{DC: -3}, api.Span{DC: -4})
		holds(t, what+", again", call(), want...)
	}
	for _, c := range []api.Ctx{room, room[:4]} {
		context.Right(c)
		context.Has(c, dots[0])
		context.Leq(c, other[:2])
		context.Same(c, other)
		context.Solid(c)
		context.Vector(c)
		context.Count(c)
	}
	if _, e := context.Of(dots...); e != api.ErrArg {
		t.Error(e)
	}
	if !slices.Equal(room, wasRoom) || !slices.Equal(other, wasOther) || !slices.Equal(dots, wasDots) {
		t.Errorf("what was handed in, or its spare room, is changed: %v %v %v", room, other, dots)
	}
}
