package pack_test

import (
	"encoding/binary"
	"encoding/hex"
	"math"
	"slices"
	"strings"
	"testing"

	"tributary/api"
	"tributary/causal"
	"tributary/codec"
	"tributary/context"
	"tributary/op"
	"tributary/pack"
	"tributary/tree"
)

const (
	most = int64(api.MaxDot)
	inc  = int64(api.MaxInc)
)

// longest and tooLong are texts of MaxText bytes, and of one more.
var (
	longest = strings.Repeat("x", api.MaxText)
	tooLong = longest + "x"
)

// en makes an entry.
func en(dc int, n int64, s string, v int64) api.Entry {
	return api.Entry{Dot: api.Dot{DC: dc, N: n}, S: s, N: v}
}

// sp makes a span.
func sp(dc int, from, to int64) api.Span { return api.Span{DC: dc, From: from, To: to} }

// leaf makes a tree of entries alone.
func leaf(l ...api.Entry) api.Tree { return api.Tree{Entries: l} }

// below makes a tree of that path alone, at whose end is t.
func below(t api.Tree, path ...string) api.Tree {
	for _, key := range slices.Backward(path) {
		t = api.Tree{Kids: []api.Kid{{Key: key, T: t}}}
	}
	return t
}

// all answers the context of all dots.
func all() api.Ctx { return api.Ctx{sp(0, 1, most), sp(1, 1, most), sp(2, 1, most), sp(3, 1, most)} }

// do makes a change.
func do(act int, s string, n int64, path ...string) api.Op {
	return api.Op{Path: path, Act: act, S: s, N: n}
}

// The bytes as the chapter tells them, of whatever is to be written, be it right or not.

// nums answers numbers as layer 2 writes them.
func nums(l ...int64) string {
	var b []byte
	for _, v := range l {
		b = binary.AppendVarint(b, v)
	}
	return string(b)
}

// texts answers texts as layer 2 writes them.
func texts(l ...string) string {
	var b []byte
	for _, s := range l {
		b = append(binary.AppendVarint(b, int64(len(s))), s...)
	}
	return string(b)
}

func ofCtx(c api.Ctx) string {
	b := []byte(nums(int64(len(c))))
	for _, s := range c {
		b = append(b, nums(int64(s.DC), s.From, s.To)...)
	}
	return string(b)
}

func ofTree(t api.Tree) string { return string(addTree(nil, t)) }

func addTree(b []byte, t api.Tree) []byte {
	b = append(b, nums(int64(len(t.Entries)))...)
	for _, e := range t.Entries {
		b = append(b, nums(int64(e.Dot.DC), e.Dot.N)+texts(e.S)+nums(e.N)...)
	}
	b = append(b, nums(int64(len(t.Kids)))...)
	for _, k := range t.Kids {
		b = addTree(append(b, texts(k.Key)...), k.T)
	}
	return b
}

func ofCausal(c api.Causal) string { return ofTree(c.T) + ofCtx(c.C) }

func ofOp(x api.Op) string {
	return nums(int64(len(x.Path))) + texts(x.Path...) + nums(int64(x.Act)) + texts(x.S) + nums(x.N)
}

func ofVector(v api.Vector) string { return nums(v[:]...) }

// bytes answers what o has.
func bytes(t *testing.T, o *codec.Out) string {
	b, e := o.End()
	if e != api.OK {
		t.Fatal(e)
	}
	return string(b)
}

// kind is what one kind of thing is, and how it becomes bytes.
type kind[T any] struct {
	put    func(o *codec.Out, x T)
	get    func(i *codec.In) T
	of     func(x T) string
	same   func(a, b T) bool
	rights []T
	wrongs map[string]T
	forms  []string // bytes that aren't one's, nor begin with one's
}

// zero tells whether x is the zero one.
func (k kind[T]) zero(x T) bool {
	var none T
	return k.of(x) == k.of(none)
}

// bytesOf answers the bytes as which x is put.
func (k kind[T]) bytesOf(t *testing.T, x T) string {
	var o codec.Out
	k.put(&o, x)
	return bytes(t, &o)
}

// refused checks that b is refused, and that nothing is there any more then.
func (k kind[T]) refused(t *testing.T, what any, b string) {
	t.Helper()
	i := codec.NewIn([]byte(b))
	for range 2 {
		if x := k.get(i); !k.zero(x) || !i.Bad() || i.Left() != 0 || i.Done() {
			t.Errorf("%v: %x is got as %v, bad: %t, left: %d", what, b, x, i.Bad(), i.Left())
		}
	}
	if i.Num(math.MaxInt64) != 0 || i.Text(math.MaxInt) != "" {
		t.Errorf("%v: something is there behind %x", what, b)
	}
}

// Whatever is right is put as the chapter tells, between whatever else, and got back.
func (k kind[T]) thereAndBack(t *testing.T) {
	for n, x := range k.rights {
		if b := k.bytesOf(t, x); b != k.of(x) {
			t.Errorf("%d: %v is put as %x, want %x", n, x, b, k.of(x))
		}
		var o codec.Out
		o.Num(-9)
		k.put(&o, x)
		k.put(&o, k.rights[0])
		o.Text("end")
		b := bytes(t, &o)
		if want := nums(-9) + k.of(x) + k.of(k.rights[0]) + texts("end"); b != want {
			t.Errorf("%d: %v is put as %x, want %x", n, x, b, want)
		}
		i := codec.NewIn([]byte(b))
		if v := i.Num(9); v != -9 {
			t.Error(n, v)
		}
		if y, z := k.get(i), k.get(i); !k.same(x, y) || !k.same(z, k.rights[0]) || k.of(y) != k.of(x) {
			t.Errorf("%d: got %v and %v, want %v", n, y, z, x)
		}
		if s := i.Text(3); s != "end" || !i.Done() {
			t.Error(n, s, i.Left())
		}
	}
}

// What isn't right is put as nothing, and its bytes are refused.
func (k kind[T]) wrong(t *testing.T) {
	var none T
	for what, x := range k.wrongs {
		var o codec.Out
		o.Num(1)
		k.put(&o, x)
		k.put(&o, k.rights[0])
		if b, want := bytes(t, &o), nums(1)+k.of(none)+k.of(k.rights[0]); b != want {
			t.Errorf("%s: put as %x, want %x", what, b, want)
		}
		// A tree of itself has no bytes.
		if !strings.Contains(what, "its own kid") {
			k.refused(t, what, k.of(x))
			k.refused(t, what, k.of(x)+k.of(k.rights[0]))
		}
	}
}

// Bytes that aren't one's are refused.
func (k kind[T]) form(t *testing.T) {
	for n, b := range k.forms {
		k.refused(t, n, b)
		k.refused(t, n, b+strings.Repeat("\x00", 9))
	}
	for _, x := range k.rights {
		b := k.of(x)
		for n := range b {
			k.refused(t, "cut off", b[:n])
		}
	}
	k.refused(t, "no bytes", "")
}

// With one byte another one, they are another one's bytes, or refused.
func (k kind[T]) changed(t *testing.T) {
	for _, x := range k.rights {
		was := k.of(x)
		for n := range was {
			for to := range 256 {
				b := []byte(was)
				b[n] = byte(to)
				i := codec.NewIn(b)
				y := k.get(i)
				if i.Bad() {
					if !k.zero(y) {
						t.Fatalf("%x: refused, but got %v", b, y)
					}
					continue
				}
				of := string(b[:len(b)-i.Left()])
				if k.of(y) != of || k.bytesOf(t, y) != of || k.same(x, y) != (of == was) {
					t.Fatalf("%x: got %v", b, y)
				}
			}
		}
	}
}

// Just what is the same has the same bytes.
func (k kind[T]) sameBytes(t *testing.T) {
	for n, x := range k.rights {
		for m, y := range k.rights {
			if like := k.bytesOf(t, x) == k.bytesOf(t, y); like != k.same(x, y) || like != (n == m) {
				t.Errorf("%v and %v: the same bytes: %t", x, y, like)
			}
		}
	}
}

// An In that is bad has nothing, and stays bad; so it is of objects that are nil.
func (k kind[T]) nothingThere(t *testing.T) {
	for _, x := range k.rights {
		i := codec.NewIn([]byte(k.of(x)))
		i.Fail()
		if y := k.get(i); !k.zero(y) || !i.Bad() {
			t.Errorf("of a bad In: %v", y)
		}
		k.put(nil, x)
		if y := k.get(nil); !k.zero(y) {
			t.Errorf("of no In: %v", y)
		}
	}
	for _, x := range k.wrongs {
		k.put(nil, x)
	}
}

// An Out of too many bytes stays so, whatever is put.
func (k kind[T]) tooMuch(t *testing.T) {
	full := strings.Repeat("x", api.MaxBytes-3) // three bytes tell how many
	for _, x := range append(slices.Clone(k.rights), slices.Collect(values(k.wrongs))...) {
		var o codec.Out
		o.Text(full)
		if b := bytes(t, &o); len(b) != api.MaxBytes {
			t.Fatal(len(b))
		}
		for range 2 {
			k.put(&o, x)
			if b, e := o.End(); e != api.ErrLong || len(b) != 0 {
				t.Errorf("%v: %d bytes, %v", x, len(b), e)
			}
		}
	}
}

// values goes through the values of m.
func values[T any](m map[string]T) func(yield func(T) bool) {
	return func(yield func(T) bool) {
		for _, x := range m {
			if !yield(x) {
				return
			}
		}
	}
}

// check checks all that holds of each kind of thing.
func (k kind[T]) check(t *testing.T) {
	t.Run("there and back", k.thereAndBack)
	t.Run("wrong", k.wrong)
	t.Run("form", k.form)
	t.Run("changed", k.changed)
	t.Run("same bytes", k.sameBytes)
	t.Run("nothing there", k.nothingThere)
	t.Run("too much", k.tooMuch)
}

// counts answers bytes that begin with a number of things that can't be there, or isn't as layer 2 writes it.
func counts() []string {
	return []string{
		nums(-1), nums(-2), nums(math.MinInt64), nums(math.MaxInt64), nums(1 << 31), nums(1<<32 + 1), nums(40),
		"\x80", "\x80\x00", "\x82\x00", "\x80\x80\x00", strings.Repeat("\x80", 10) + "\x01", strings.Repeat("\xff", 9) + "\x02", strings.Repeat("\xff", 64),
	}
}

// behind answers b with each of these before it.
func behind(b string, l ...string) []string {
	for n := range l {
		l[n] = b + l[n]
	}
	return l
}

func ctxs() kind[api.Ctx] {
	k := kind[api.Ctx]{put: pack.PutCtx, get: pack.GetCtx, of: ofCtx, same: context.Same}
	k.rights = []api.Ctx{
		nil,
		{sp(0, 1, 1)},
		{sp(0, 1, 2)},
		{sp(0, 2, 2)},
		{sp(0, 63, 64)},
		{sp(1, 1, 1)},
		{sp(3, 1, most)},
		{sp(3, most, most)},
		{sp(0, 1, 1), sp(0, 3, 3)},
		{sp(0, 1, 1), sp(1, 1, 1)},
		{sp(0, 8191, 8192), sp(2, 5, 6), sp(2, 8, 1<<20), sp(3, 1, 1)},
		all(),
	}
	k.wrongs = map[string]api.Ctx{
		"the zero span":           {{}},
		"a span of none":          {sp(0, 2, 1)},
		"a span from 0":           {sp(0, 0, 1)},
		"a span from below":       {sp(0, -1, 1)},
		"a span from far below":   {sp(0, math.MinInt64, 1)},
		"a span to above":         {sp(0, 1, most+1)},
		"a span to far above":     {sp(0, 1, math.MaxInt64)},
		"no center":               {sp(api.MaxDC, 1, 1)},
		"no center, far above":    {sp(math.MaxInt, 1, 1)},
		"no center, beyond":       {sp(1<<32, 1, 1)},
		"a center below":          {sp(-1, 1, 1)},
		"a center far below":      {sp(math.MinInt, 1, 1)},
		"one span twice":          {sp(0, 1, 1), sp(0, 1, 1)},
		"two spans that are one":  {sp(0, 1, 1), sp(0, 2, 2)},
		"two spans overlap":       {sp(0, 1, 3), sp(0, 3, 5)},
		"the spans fall":          {sp(0, 3, 3), sp(0, 1, 1)},
		"the centers fall":        {sp(1, 1, 1), sp(0, 1, 1)},
		"a wrong one behind all":  append(all(), sp(3, 1, 1)),
		"a wrong one behind gaps": {sp(0, 1, 1), sp(0, 3, 3), sp(0, 5, 4)},
	}
	k.forms = append(counts(), behind(nums(1), "\x80\x00\x02\x02", "\x00\x82\x00\x02", "\x00\x02\x82\x00")...)
	return k
}

// rightTrees answers right trees, no two of them the same, the first one empty.
func rightTrees() []api.Tree {
	return []api.Tree{
		{},
		leaf(en(0, 1, "", 0)),
		leaf(en(1, 1, "", 0)),
		leaf(en(0, 2, "", 0)),
		leaf(en(0, 1, "a", 0)),
		leaf(en(0, 1, "\x00", 0)),
		leaf(en(0, 1, "", 1)),
		leaf(en(0, 1, "", -1)),
		leaf(en(3, most, longest, inc)),
		leaf(en(3, most, longest, -inc)),
		leaf(en(0, 1, "\xff\xfe", 63), en(0, 2, "b", 64), en(2, 1, "", -65)),
		below(leaf(en(0, 1, "", 0)), "a"),
		below(leaf(en(0, 1, "", 0)), "\x00"),
		below(leaf(en(0, 1, "", 0)), "a", "b"),
		below(leaf(en(0, 1, "", 0)), "a", "b", "c", longest),
		{Entries: leaf(en(0, 1, "", 0)).Entries, Kids: below(leaf(en(0, 1, "", 0)), "a").Kids},
		{Kids: []api.Kid{{Key: "a", T: leaf(en(0, 2, "", 0))}, {Key: "aa", T: leaf(en(0, 1, "", 0))}, {Key: "b", T: leaf(en(0, 2, "", 0))}}},
		{
			Entries: []api.Entry{en(0, 1, "", 0), en(2, 7, "z", -3)},
			Kids: []api.Kid{
				{Key: "a", T: leaf(en(0, 2, "x", 1), en(0, 4, "x", 1))},
				{Key: "b", T: api.Tree{
					Entries: []api.Entry{en(3, 1, "", 5)},
					Kids:    []api.Kid{{Key: "a", T: leaf(en(0, 2, "q", 9))}, {Key: "c", T: leaf(en(0, 4, "y", 0))}},
				}},
				{Key: "c", T: below(leaf(en(1, 5, "", inc)), "c", "d", "e")},
			},
		},
	}
}

// wrongTrees answers trees that aren't right, each for one cause.
func wrongTrees() map[string]api.Tree {
	one := leaf(en(0, 1, "", 0))
	m := map[string]api.Tree{
		"the zero entry":         leaf(api.Entry{}),
		"a dot below 1":          leaf(en(0, -1, "", 0)),
		"a dot above MaxDot":     leaf(en(0, most+1, "", 0)),
		"a dot far above":        leaf(en(0, math.MaxInt64, "", 0)),
		"no center":              leaf(en(api.MaxDC, 1, "", 0)),
		"no center, beyond":      leaf(en(1<<32, 1, "", 0)),
		"a center below 0":       leaf(en(-1, 1, "", 0)),
		"one dot twice":          leaf(en(0, 2, "", 0), en(0, 2, "", 0)),
		"the dots fall":          leaf(en(1, 1, "", 0), en(0, 2, "", 0)),
		"a text too long":        leaf(en(0, 1, tooLong, 0)),
		"a text far too long":    leaf(en(0, 1, strings.Repeat("x", api.MaxBytes), 0)),
		"a number above":         leaf(en(0, 1, "", inc+1)),
		"a number below":         leaf(en(0, 1, "", -inc-1)),
		"a number far below":     leaf(en(0, 1, "", math.MinInt64)),
		"the last entry wrong":   leaf(en(0, 1, "", 0), en(0, 2, "", 0), en(0, 3, tooLong, 0)),
		"no key":                 below(one, ""),
		"a key too long":         below(one, tooLong),
		"one key twice":          {Kids: []api.Kid{{Key: "a", T: one}, {Key: "a", T: one}}},
		"the keys fall":          {Kids: []api.Kid{{Key: "b", T: one}, {Key: "a", T: one}}},
		"an empty kid":           below(api.Tree{}, "a"),
		"an empty kid of a kid":  {Entries: one.Entries, Kids: below(api.Tree{}, "a", "b").Kids},
		"a wrong kid of a kid":   {Entries: one.Entries, Kids: below(leaf(en(0, 0, "", 0)), "a", "b").Kids},
		"six levels":             below(one, "a", "b", "c", "d", "e"),
		"six levels, the second": {Kids: []api.Kid{{Key: "a", T: one}, {Key: "b", T: below(one, "a", "b", "c", "d")}}},
		"far too deep":           below(one, strings.Split(strings.Repeat("k", 1<<16), "")...),
	}
	// A tree of itself has no end.
	round := []api.Kid{{Key: "a", T: one}}
	round[0].T.Kids = round
	m["its own kid"] = api.Tree{Kids: round}
	return m
}

func trees() kind[api.Tree] {
	k := kind[api.Tree]{put: pack.PutTree, get: pack.GetTree, of: ofTree, same: tree.Same, rights: rightTrees(), wrongs: wrongTrees()}
	k.forms = append(counts(), behind(nums(0), counts()...)...)
	k.forms = append(k.forms, behind(nums(1, 0, 1), counts()...)...)
	k.forms = append(k.forms, behind(nums(0, 1), counts()...)...)
	k.forms = append(k.forms, behind(nums(0, 1)+texts("a"), counts()...)...)
	k.forms = append(k.forms, behind(nums(1), "\x80\x00\x02\x00\x00\x00", "\x00\x82\x00\x00\x00\x00", "\x00\x02\x80\x00\x00\x00", "\x00\x02\x00\x80\x00\x00")...)
	return k
}

func causals() kind[api.Causal] {
	k := kind[api.Causal]{put: pack.PutCausal, get: pack.GetCausal, of: ofCausal, same: causal.Same, wrongs: map[string]api.Causal{}}
	for _, x := range rightTrees() {
		dots, _ := tree.Dots(x)
		k.rights = append(k.rights, api.Causal{T: x, C: dots}, api.Causal{T: x, C: all()})
	}
	for _, c := range ctxs().rights {
		if len(c) > 0 && len(c) < api.MaxDC {
			k.rights = append(k.rights, api.Causal{C: c})
		}
	}
	for what, x := range wrongTrees() {
		k.wrongs["a tree of: "+what] = api.Causal{T: x, C: all()}
	}
	for what, c := range ctxs().wrongs {
		k.wrongs["a context of: "+what] = api.Causal{C: c}
	}
	one := leaf(en(0, 1, "", 0))
	k.wrongs["no context"] = api.Causal{T: one}
	k.wrongs["the context hasn't the dot"] = api.Causal{T: one, C: api.Ctx{sp(0, 2, 9)}}
	k.wrongs["the context is another's"] = api.Causal{T: one, C: api.Ctx{sp(1, 1, 9)}}
	k.wrongs["the context hasn't the second dot"] = api.Causal{T: leaf(en(0, 1, "", 0), en(0, 3, "", 0)), C: api.Ctx{sp(0, 1, 2)}}
	k.wrongs["the context hasn't the deepest dot"] = api.Causal{T: below(leaf(en(3, 2, "", 0)), "a", "b", "c", "d"), C: api.Ctx{sp(3, 1, 1), sp(3, 3, 3)}}
	k.forms = append(counts(), behind(ofTree(api.Tree{}), counts()...)...)
	k.forms = append(k.forms, behind(ofTree(one), counts()...)...)
	return k
}

func ops() kind[api.Op] {
	k := kind[api.Op]{put: pack.PutOp, get: pack.GetOp, of: ofOp, same: func(a, b api.Op) bool {
		return slices.Equal(a.Path, b.Path) && a.Act == b.Act && a.S == b.S && a.N == b.N
	}}
	k.rights = []api.Op{
		do(op.Enable, "", 0, "f"),
		do(op.Disable, "", 0, "f"),
		do(op.Enable, "", 0, "fx"),
		do(op.Enable, "", 0, "m", "f"),
		do(op.Enable, "", 0, "m", "m", "f"),
		do(op.Add, "a", 0, "s"),
		do(op.Del, "a", 0, "s"),
		do(op.Add, longest, 0, "s"+longest[1:]),
		do(op.Inc, "", 0, "c"),
		do(op.Inc, "", inc, "c"),
		do(op.Inc, "", -inc, "c"),
		do(op.Write, "", 0, "r"),
		do(op.Write, longest, 0, "m"+longest[1:], "m"+longest[1:], "r"+longest[1:]),
		do(op.Write, "\x00\xff", 0, "r\x00"),
		do(op.Reset, "", 0, "f"),
		do(op.Reset, "", 0, "m"),
		do(op.Reset, "", 0, "m", "m", "m"),
	}
	k.wrongs = map[string]api.Op{
		"the zero one":               {},
		"no keys":                    do(op.Reset, "", 0),
		"four keys":                  do(op.Reset, "", 0, "m", "m", "m", "f"),
		"many keys":                  do(op.Reset, "", 0, slices.Repeat([]string{"m"}, 1<<16)...),
		"an empty key":               do(op.Reset, "", 0, ""),
		"an empty key ahead":         do(op.Reset, "", 0, "", "f"),
		"a key of no kind":           do(op.Reset, "", 0, "x"),
		"a key too long":             do(op.Reset, "", 0, "f"+longest),
		"a key far too long":         do(op.Reset, "", 0, "f"+strings.Repeat("x", api.MaxBytes)),
		"a key ahead that is no map": do(op.Reset, "", 0, "f", "f"),
		"no Act":                     do(0, "", 0, "f"),
		"an Act below 0":             do(-op.Reset, "", 0, "f"),
		"an Act above":               do(op.Reset+1, "", 0, "f"),
		"an Act far above":           do(math.MaxInt, "", 0, "f"),
		"an Act far below":           do(math.MinInt, "", 0, "f"),
		"an Act beyond":              do(1<<32+op.Reset, "", 0, "f"),
		"another kind's Act":         do(op.Enable, "", 0, "c"),
		"no S":                       do(op.Add, "", 0, "s"),
		"an S too long":              do(op.Add, tooLong, 0, "s"),
		"an S far too long":          do(op.Write, strings.Repeat("x", api.MaxBytes), 0, "r"),
		"an S that isn't told":       do(op.Inc, "a", 1, "c"),
		"an N above":                 do(op.Inc, "", inc+1, "c"),
		"an N below":                 do(op.Inc, "", -inc-1, "c"),
		"an N far above":             do(op.Inc, "", math.MaxInt64, "c"),
		"an N far below":             do(op.Inc, "", math.MinInt64, "c"),
		"an N that isn't told":       do(op.Enable, "", 1, "f"),
	}
	k.forms = append(counts(), behind(nums(1), counts()...)...)
	k.forms = append(k.forms, behind(nums(1)+texts("c"), counts()...)...)
	k.forms = append(k.forms, behind(nums(1)+texts("s")+nums(op.Add), counts()...)...)
	k.forms = append(k.forms, nums(1)+texts("c")+nums(op.Inc)+texts("")+"\x82\x00", nums(1)+texts("c")+"\x8a\x00"+texts("")+nums(1))
	return k
}

func vectors() kind[api.Vector] {
	k := kind[api.Vector]{put: pack.PutVector, get: pack.GetVector, of: ofVector, same: func(a, b api.Vector) bool { return a == b }}
	k.rights = []api.Vector{{}, {1}, {0, 1}, {0, 0, 1}, {0, 0, 0, 1}, {63, 64, 8191, 8192}, {1, 2, 3, 4}, {4, 3, 2, 1}, {most, most, most, most}}
	k.wrongs = map[string]api.Vector{}
	for dc := range api.MaxDC {
		for what, n := range map[string]int64{"below": -1, "far below": math.MinInt64, "low": -most, "above": most + 1, "far above": math.MaxInt64} {
			v := api.Vector{1, 2, 3, 4}
			v[dc] = n
			k.wrongs[what+" at "+string(rune('0'+dc))] = v
		}
	}
	k.forms = append([]string{"\x80\x00\x00\x00\x00", "\x02\x02\x02\x82\x00"}, behind(nums(0, 0, 0), "\x80", "\x80\x00", nums(-1), nums(most+1))...)
	return k
}

func TestContexts(t *testing.T) { ctxs().check(t) }
func TestTrees(t *testing.T)    { trees().check(t) }
func TestCausals(t *testing.T)  { causals().check(t) }
func TestOps(t *testing.T)      { ops().check(t) }
func TestVectors(t *testing.T)  { vectors().check(t) }

// The bytes, byte by byte.
func TestJustTheseBytes(t *testing.T) {
	known := api.Causal{
		T: api.Tree{
			Entries: []api.Entry{en(3, 64, "", inc)},
			Kids:    []api.Kid{{Key: "f", T: leaf(en(1, 2, "ab", -1), en(1, most, "", 0))}, {Key: "g", T: below(leaf(en(0, 1, "", 0)), "h")}},
		},
		C: all(),
	}
	spans := "08" + "0002808080808040" + "0202808080808040" + "0402808080808040" + "0602808080808040"
	root := "02" + "06800100808080808040" + "04"
	kids := "0266" + "04" + "0204046162" + "01" + "02808080808040" + "0000" + "00" + "0267" + "00" + "02" + "0268" + "02" + "00020000" + "00"
	for what, c := range map[string]struct {
		put  func(o *codec.Out)
		want string
	}{
		"no context":       {func(o *codec.Out) { pack.PutCtx(o, nil) }, "00"},
		"an empty context": {func(o *codec.Out) { pack.PutCtx(o, api.Ctx{}) }, "00"},
		"a context":        {func(o *codec.Out) { pack.PutCtx(o, api.Ctx{sp(2, 3, 64)}) }, "02" + "04068001"},
		"all dots":         {func(o *codec.Out) { pack.PutCtx(o, all()) }, spans},
		"an empty tree":    {func(o *codec.Out) { pack.PutTree(o, api.Tree{Entries: []api.Entry{}, Kids: []api.Kid{}}) }, "0000"},
		"a tree":           {func(o *codec.Out) { pack.PutTree(o, known.T) }, root + kids},
		"nothing known":    {func(o *codec.Out) { pack.PutCausal(o, api.Causal{}) }, "000000"},
		"what is known":    {func(o *codec.Out) { pack.PutCausal(o, known) }, root + kids + spans},
		"a change":         {func(o *codec.Out) { pack.PutOp(o, do(op.Inc, "", -3, "m", "mx", "c")) }, "06" + "026d" + "046d78" + "0263" + "0a" + "00" + "05"},
		"a text's change":  {func(o *codec.Out) { pack.PutOp(o, do(op.Del, "e", 0, "s")) }, "02" + "0273" + "08" + "0265" + "00"},
		"no change":        {func(o *codec.Out) { pack.PutOp(o, api.Op{}) }, "00000000"},
		"a wrong change":   {func(o *codec.Out) { pack.PutOp(o, do(op.Del, "", 0, "s")) }, "00000000"},
		"a vector":         {func(o *codec.Out) { pack.PutVector(o, api.Vector{1, 64, 0, most}) }, "02" + "8001" + "00" + "808080808040"},
		"a wrong vector":   {func(o *codec.Out) { pack.PutVector(o, api.Vector{1, 64, -1, most}) }, "00000000"},
	} {
		var o codec.Out
		c.put(&o)
		if b := hex.EncodeToString([]byte(bytes(t, &o))); b != c.want {
			t.Errorf("%s: %s, want %s", what, b, c.want)
		}
	}
}

// The bytes of no change are no right one's, those of nothing else that is empty are.
func TestOfNoughts(t *testing.T) {
	ops().refused(t, "no change", "\x00\x00\x00\x00")
	i := codec.NewIn(make([]byte, 10))
	c, x, k, v := pack.GetCtx(i), pack.GetTree(i), pack.GetCausal(i), pack.GetVector(i)
	if len(c) != 0 || !tree.Empty(x) || !causal.Same(k, api.Causal{}) || v != (api.Vector{}) || !i.Done() {
		t.Error(c, x, k, v, i.Left())
	}
}

// Of bytes that go on and on nobody goes all the way down, nor makes room for what isn't there.
func TestOfEndlessForms(t *testing.T) {
	deep := strings.Repeat("\x00\x02\x02k", 1<<21)
	trees().refused(t, "deep", deep)
	causals().refused(t, "deep", deep)
	for _, n := range []int64{1 << 31, 1 << 50, math.MaxInt64} {
		wide := nums(n) + strings.Repeat("\x00\x02\x00\x00", 1<<10)
		trees().refused(t, n, wide)
		ctxs().refused(t, n, wide)
		ops().refused(t, n, wide)
	}
	for _, one := range []string{"\x01", "\x03", "\x80", "\xff"} {
		b := strings.Repeat(one, 1<<20)
		trees().refused(t, "on and on", b)
		ctxs().refused(t, "on and on", b)
		ops().refused(t, "on and on", b)
		vectors().refused(t, "on and on", b)
	}
}

func TestBytes(t *testing.T) {
	k := causals()
	for n, c := range k.rights {
		b, e := pack.Bytes(c)
		if e != api.OK || string(b) != ofCausal(c) {
			t.Errorf("%d: %x %v, want %x", n, b, e, ofCausal(c))
		}
	}
	for what, c := range k.wrongs {
		if b, e := pack.Bytes(c); e != api.ErrArg || len(b) != 0 {
			t.Errorf("%s: %x %v", what, b, e)
		}
	}
	if b, e := pack.Bytes(api.Causal{}); e != api.OK || string(b) != "\x00\x00\x00" {
		t.Errorf("%x %v", b, e)
	}
}

// long answers what is known whose bytes are just n, at least 40000.
func long(t *testing.T, n int) api.Causal {
	c := api.Causal{C: api.Ctx{sp(0, 1, 4000)}}
	for d := range int64(2000) {
		c.T.Entries = append(c.T.Entries, en(0, d+1, longest[:14], 0))
	}
	missing := n - len(ofCausal(c))
	for at := range c.T.Entries {
		more := min(missing, api.MaxText-14)
		c.T.Entries[at].S = longest[:14+more]
		missing -= more
	}
	if len(ofCausal(c)) != n {
		t.Fatal(len(ofCausal(c)))
	}
	return c
}

func TestBytesOfMany(t *testing.T) {
	for _, n := range []int{api.MaxBytes - 1, api.MaxBytes} {
		c := long(t, n)
		b, e := pack.Bytes(c)
		if e != api.OK || string(b) != ofCausal(c) {
			t.Errorf("%d: %d bytes, %v", n, len(b), e)
		}
		if d, e := pack.Read(b); e != api.OK || !causal.Same(c, d) {
			t.Error(n, e)
		}
	}
	for _, n := range []int{api.MaxBytes + 1, api.MaxBytes + 2, api.MaxBytes + 5000} {
		c := long(t, n)
		if b, e := pack.Bytes(c); e != api.ErrLong || len(b) != 0 {
			t.Errorf("%d: %d bytes, %v", n, len(b), e)
		}
		// What isn't right is asked first.
		c.C = nil
		if b, e := pack.Bytes(c); e != api.ErrArg || len(b) != 0 {
			t.Errorf("%d, of no context: %d bytes, %v", n, len(b), e)
		}
	}
}

func TestRead(t *testing.T) {
	k := causals()
	for n, c := range k.rights {
		b := ofCausal(c)
		if d, e := pack.Read([]byte(b)); e != api.OK || !causal.Same(c, d) {
			t.Errorf("%d: %x: %v %v, want %v", n, b, d, e, c)
		}
		for m := range b {
			unread(t, "cut off", b[:m])
		}
		unread(t, "a byte behind", b+"\x00")
		unread(t, "itself behind", b+b)
		unread(t, "a byte ahead", "\x7f"+b)
	}
	for what, c := range k.wrongs {
		if !strings.Contains(what, "its own kid") {
			unread(t, what, ofCausal(c))
		}
	}
	for _, b := range k.forms {
		unread(t, "another form", b)
	}
	if c, e := pack.Read(nil); e != api.ErrForm || !k.zero(c) {
		t.Error(c, e)
	}
}

// unread checks that b isn't read.
func unread(t *testing.T, what, b string) {
	t.Helper()
	if c, e := pack.Read([]byte(b)); e != api.ErrForm || len(c.T.Entries) != 0 || len(c.T.Kids) != 0 || len(c.C) != 0 {
		t.Errorf("%s: %x: %v %v", what, b, c, e)
	}
}

// Read asks nothing but whether they are one's bytes: not how many.
func TestReadOfMany(t *testing.T) {
	c := long(t, api.MaxBytes+1)
	for d := range int64(1 << 17) {
		c.C = append(c.C, sp(2, 2*d+1, 2*d+1))
	}
	b := ofCausal(c)
	if d, e := pack.Read([]byte(b)); e != api.OK || !causal.Same(c, d) {
		t.Error(len(b), e)
	}
	unread(t, "one byte less", b[:len(b)-1])
}

// Of all short lists of bytes those are read that are written, and no others.
func TestReadOfAllShort(t *testing.T) {
	heads := "\x00\x01\x02\x04\x06\x80a"
	read := 0
	var try func(b string, n int)
	try = func(b string, n int) {
		c, e := pack.Read([]byte(b))
		again, f := pack.Bytes(c)
		if e == api.OK && (f != api.OK || string(again) != b) {
			t.Fatalf("%x is read as %v, whose bytes are %x, %v", b, c, again, f)
		}
		if e == api.OK {
			read++
		} else if e != api.ErrForm || f != api.OK || string(again) != "\x00\x00\x00" {
			t.Fatalf("%x: %v, %v", b, c, e)
		}
		for at := 0; n > 0 && at < len(heads); at++ {
			try(b+heads[at:at+1], n-1)
		}
	}
	try("", 7)
	// A tree's bytes and its context's are more than seven. Without one: nothing; of each of the four centers 1, 2, 3, 1-2, 1-3, 2-3; and from 1, 2 or 3 to one of five numbers of two bytes.
	if read != 1+4*6+4*3*5 {
		t.Error(read)
	}
}

// roomy answers l with spare room, in which something stands, behind it.
func roomy[T any](l []T, spare T) []T {
	return append(append(make([]T, 0, len(l)+2), l...), spare, spare)[:len(l)]
}

// roomyTree answers t with spare room behind each of its lists.
func roomyTree(t api.Tree) api.Tree {
	y := api.Tree{Entries: roomy(t.Entries, en(9, 9, "spare", 9))}
	for _, k := range t.Kids {
		y.Kids = append(y.Kids, api.Kid{Key: k.Key, T: roomyTree(k.T)})
	}
	y.Kids = roomy(y.Kids, api.Kid{Key: "spare"})
	return y
}

// intact tells whether y is t as roomyTree made it.
func intact(t, y api.Tree) bool {
	spare := en(9, 9, "spare", 9)
	if !slices.Equal(y.Entries[:len(y.Entries)+2], append(slices.Clone(t.Entries), spare, spare)) || len(y.Kids) != len(t.Kids) {
		return false
	}
	for _, k := range y.Kids[len(y.Kids) : len(y.Kids)+2] {
		if k.Key != "spare" || !tree.Empty(k.T) {
			return false
		}
	}
	return slices.EqualFunc(t.Kids, y.Kids, func(a, b api.Kid) bool { return a.Key == b.Key && intact(a.T, b.T) })
}

// What is put stays as it is, its spare room too.
func TestPutsLeaveAll(t *testing.T) {
	for _, x := range append(causals().rights, api.Causal{T: leaf(en(0, 0, "", 0)), C: api.Ctx{sp(0, 2, 1)}}) {
		spare := sp(9, 9, 9)
		y := api.Causal{T: roomyTree(x.T), C: roomy(x.C, spare)}
		var o codec.Out
		pack.PutTree(&o, y.T)
		pack.PutCtx(&o, y.C)
		pack.PutCausal(&o, y)
		pack.Bytes(y)
		if !intact(x.T, y.T) || !slices.Equal(y.C[:len(y.C)+2], append(slices.Clone(x.C), spare, spare)) {
			t.Errorf("%v: what was handed in, or its spare room, is changed: %v", x, y)
		}
	}
	for _, x := range append(ops().rights, api.Op{Path: []string{"x"}}) {
		y := x
		y.Path = roomy(x.Path, "spare")
		var o codec.Out
		pack.PutOp(&o, y)
		if !slices.Equal(y.Path[:len(y.Path)+2], append(slices.Clone(x.Path), "spare", "spare")) {
			t.Errorf("%v: the path that was handed in, or its spare room, is changed: %q", x, y.Path)
		}
	}
}

// spoil overwrites all of t, its spare room too.
func spoil(t api.Tree) {
	for _, k := range t.Kids {
		spoil(k.T)
	}
	for i := range t.Entries[:cap(t.Entries)] {
		t.Entries[:cap(t.Entries)][i] = en(-1, -1, "spoilt", -1)
	}
	for i := range t.Kids[:cap(t.Kids)] {
		t.Kids[:cap(t.Kids)][i] = api.Kid{Key: "spoilt"}
	}
}

// What is got is new memory: it shares none with the bytes, nor with what else is got.
func TestAnswersStandAlone(t *testing.T) {
	for _, x := range causals().rights {
		handed := roomy([]byte(ofCausal(x)), '!')
		for range 2 {
			b, e := pack.Bytes(x)
			if e != api.OK || string(b) != ofCausal(x) {
				t.Errorf("%v, perhaps again: %x %v", x, b, e)
			}
			clear(b[:cap(b)])
			c, e := pack.Read(handed)
			if e != api.OK || !causal.Same(c, x) {
				t.Errorf("%v, perhaps again: %v %v", x, c, e)
			}
			spoil(c.T)
			clear(c.C[:cap(c.C)])
		}
		if want := ofCausal(x) + "!!"; string(handed[:len(handed)+2]) != want {
			t.Errorf("the bytes that were handed in, or their spare room, are changed: %x", handed[:len(handed)+2])
		}
		y, _ := pack.Read(handed)
		clear(handed[:cap(handed)])
		if !causal.Same(y, x) {
			t.Errorf("%v hangs on the bytes that were handed in", y)
		}
		apart(t, x, y)
	}
	i := codec.NewIn([]byte(strings.Repeat(ofOp(do(op.Reset, "", 0, "m", "m", "f")), 2)))
	a, b := pack.GetOp(i), pack.GetOp(i)
	clear(a.Path[:cap(a.Path)])
	if !slices.Equal(b.Path, []string{"m", "m", "f"}) {
		t.Errorf("%q", b.Path)
	}
}

// apart checks that no two lists of y, which is like x, share memory.
func apart(t *testing.T, x, y api.Causal) {
	clear(y.C[:cap(y.C)])
	if !tree.Same(x.T, y.T) {
		t.Errorf("the tree hangs on the context: %v", y.T)
	}
	for n, k := range y.T.Kids {
		if !tree.Same(x.T.Kids[n].T, k.T) {
			t.Errorf("kid %d hangs on those ahead: %v", n, k.T)
		}
		spoil(k.T)
	}
	for i := range y.T.Kids[:cap(y.T.Kids)] {
		y.T.Kids[:cap(y.T.Kids)][i] = api.Kid{}
	}
	if !slices.Equal(x.T.Entries, y.T.Entries) {
		t.Errorf("the entries hang on the kids: %v", y.T.Entries)
	}
}
