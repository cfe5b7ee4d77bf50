package tests

import (
	"slices"
	"testing"

	"loop.example/g00523/impl"
)

// symRows are all kinds of syms with the values that they may have, and with those beside them that they may not.
var symRows = []struct {
	kind        int64
	good, wrong []int64
}{
	{0, []int64{0}, []int64{-2, -1, 1, 2, 3, 4, 65}},
	{1, charEdges, noChars},
	{2, []int64{0, 1, 2, 3}, []int64{-2, -1, 4, 5, 6, 7, 8, 65}},
	{3, []int64{1, 2, 4}, []int64{-4, -2, -1, 0, 3, 5, 6, 7, 8, 9, 16, 65}},
	{4, []int64{0}, []int64{-2, -1, 1, 2, 3, 4, 65}},
	{5, []int64{1, 2, 3}, []int64{-3, -2, -1, 0, 4, 5, 6, 7, 65}},
	{6, []int64{0, 1, 2}, []int64{-2, -1, 3, 4, 5, 65}},
}

// noKinds, noKeys and noMods are none, near the bounds of those that are, and far off.
var (
	noKinds = append([]int64{-7, -2, -1, 7, 8, 9, 16}, bigNumbers...)
	noKeys  = append([]int64{-40, -5, -2, -1, 0, 41, 42, 80}, bigNumbers...)
	noMods  = append([]int64{-8, -7, -2, -1, 8, 9, 15, 16}, bigNumbers...)
)

func sym(kind, value int64) impl.Sym {
	return impl.Sym{Kind: kind, Value: value}
}

func bind(key, mods, kind, value int64) impl.Bind {
	return impl.Bind{Key: key, Mods: mods, Sym: sym(kind, value)}
}

// charBind is bound to a character that no two keys with mods share.
func charBind(key, mods int64) impl.Bind {
	return bind(key, mods, impl.SymChar, 100*key+mods+1000)
}

// wrongSym is a sym with the code that it has to be told.
type wrongSym struct {
	sym  impl.Sym
	code int64
}

func goodSyms() []impl.Sym {
	var syms []impl.Sym
	for _, row := range symRows {
		for _, value := range row.good {
			syms = append(syms, sym(row.kind, value))
		}
	}
	return syms
}

func wrongSyms() []wrongSym {
	var wrong []wrongSym
	for _, row := range symRows {
		for _, value := range slices.Concat(row.wrong, bigNumbers) {
			wrong = append(wrong, wrongSym{sym(row.kind, value), impl.ErrRange})
		}
	}
	for _, kind := range noKinds {
		for _, value := range append([]int64{-1, 0, 1, 2, 3, 4, 65, 65536}, bigNumbers[:4]...) {
			wrong = append(wrong, wrongSym{sym(kind, value), impl.ErrForm})
		}
	}
	return wrong
}

// bindsOfMany has n binds, up to three of a key, and each second key none with Mods 0.
func bindsOfMany(n int) []impl.Bind {
	var list []impl.Bind
	for i := range int64(n) {
		list = append(list, charBind(3*(i/3)+2, i%3*3+i/3%2))
	}
	return list
}

// goodBinds are of all numbers of binds, and with binds at the edges.
func goodBinds() [][]impl.Bind {
	lists := [][]impl.Bind{
		nil, {},
		{charBind(1, 0)}, {charBind(40, 7)}, {charBind(1, 7)}, {charBind(40, 0)}, {charBind(20, 4)}, {{Key: 7}},
		{charBind(1, 0), charBind(40, 7)}, {charBind(1, 7), charBind(2, 0)},
		{charBind(5, 0), charBind(5, 1), charBind(5, 2), charBind(5, 3), charBind(5, 4), charBind(5, 5), charBind(5, 6), charBind(5, 7)},
		{charBind(5, 1), charBind(5, 7), charBind(6, 0), charBind(6, 7), charBind(7, 3)},
		// Bound to nothing, without mods and with some.
		{bind(5, 0, 0, 0), bind(5, 2, 1, 65), bind(6, 0, 1, 66), bind(6, 2, 0, 0)},
		{bind(1, 0, 3, 1), bind(2, 0, 3, 2), bind(3, 0, 3, 4), bind(4, 0, 4, 0), bind(5, 0, 5, 1), bind(5, 1, 5, 3), bind(6, 0, 6, 2), bind(7, 0, 2, 3), bind(8, 0, 1, 0)},
	}
	for n := range impl.MaxBinds + 1 {
		lists = append(lists, bindsOfMany(n))
	}
	return lists
}

// wrongList is a list of binds with the code that it has to be told.
type wrongList struct {
	list []impl.Bind
	code int64
}

// withBind is a copy of a list with another bind at a place.
func withBind(list []impl.Bind, at int, b impl.Bind) []impl.Bind {
	list = slices.Clone(list)
	list[at] = b
	return list
}

// wrongOrders are lists that do not rise, and nothing else.
func wrongOrders() []wrongList {
	last := bindsOfMany(24)
	last[23] = last[22]
	first := bindsOfMany(24)
	first[0], first[1] = first[1], first[0]
	var wrong []wrongList
	for _, list := range [][]impl.Bind{
		{charBind(5, 1), charBind(5, 1)},
		{bind(5, 1, 1, 65), bind(5, 1, 1, 66)},
		{bind(5, 1, 3, 1), bind(5, 1, 4, 0)},
		{{Key: 1}, {Key: 1}},
		{charBind(40, 7), charBind(40, 7)},
		{charBind(5, 1), charBind(5, 0)},
		{charBind(5, 7), charBind(5, 6)},
		{charBind(5, 1), charBind(4, 1)},
		{charBind(5, 1), charBind(4, 2)},
		{charBind(5, 0), charBind(4, 7)},
		{charBind(40, 0), charBind(1, 7)},
		{charBind(1, 0), charBind(3, 0), charBind(2, 0)},
		{charBind(1, 0), charBind(3, 0), charBind(1, 0)},
		{charBind(2, 0), charBind(1, 0), charBind(3, 0)},
		{charBind(5, 0), charBind(5, 2), charBind(5, 1)},
		last, first,
	} {
		wrong = append(wrong, wrongList{list, impl.ErrForm})
	}
	return wrong
}

// wrongTogether are lists with several faults: the first bind that has one tells it, and of one bind its bounds, its sym and its place, in that order.
func wrongTogether() []wrongList {
	many := bindsOfMany(25)
	wrong := []wrongList{
		{many, impl.ErrMany},
		{withBind(many, 0, bind(0, 8, 7, 9)), impl.ErrMany},
		{withBind(many, 0, bind(1, 0, 7, 0)), impl.ErrMany},
		{withBind(many, 1, many[0]), impl.ErrMany},
		{withBind(many, 24, bind(41, 0, 1, 65)), impl.ErrMany},
		{make([]impl.Bind, 25), impl.ErrMany},
		{make([]impl.Bind, 5000), impl.ErrMany},
		{make([]impl.Bind, 24), impl.ErrRange},
		{[]impl.Bind{{}}, impl.ErrRange},
		{[]impl.Bind{bind(0, 8, 7, 9)}, impl.ErrRange},
		{[]impl.Bind{bind(0, 0, 7, 9)}, impl.ErrRange},
		{[]impl.Bind{bind(41, 0, 7, 9)}, impl.ErrRange},
		{[]impl.Bind{bind(1, 8, 7, 9)}, impl.ErrRange},
		{[]impl.Bind{bind(1, -1, -1, 0)}, impl.ErrRange},
		// Of one bind the bounds are asked ahead of the sym, and both ahead of the place.
		{[]impl.Bind{charBind(5, 1), bind(5, 1, 7, 0)}, impl.ErrForm},
		{[]impl.Bind{charBind(5, 1), bind(5, 1, 3, 3)}, impl.ErrRange},
		{[]impl.Bind{charBind(5, 1), bind(4, 1, 1, 55296)}, impl.ErrRange},
		{[]impl.Bind{charBind(5, 1), bind(0, 1, 1, 65)}, impl.ErrRange},
		{[]impl.Bind{charBind(5, 1), bind(5, -1, 1, 65)}, impl.ErrRange},
		{[]impl.Bind{charBind(5, 1), bind(4, 8, 7, 65)}, impl.ErrRange},
		// Several of them: the first one's comes first, whatever the others have.
		{[]impl.Bind{charBind(5, 1), charBind(5, 1), bind(41, 0, 1, 65)}, impl.ErrForm},
		{[]impl.Bind{charBind(5, 1), charBind(4, 1), bind(6, 0, 3, 3)}, impl.ErrForm},
		{[]impl.Bind{bind(5, 1, 7, 0), bind(41, 0, 1, 65)}, impl.ErrForm},
		{[]impl.Bind{bind(5, 1, 7, 0), bind(6, 0, 3, 3)}, impl.ErrForm},
		{[]impl.Bind{bind(5, 1, 3, 3), bind(6, 0, 7, 0)}, impl.ErrRange},
		{[]impl.Bind{bind(5, 1, 3, 3), charBind(5, 1)}, impl.ErrRange},
		{[]impl.Bind{bind(41, 0, 1, 65), charBind(5, 0)}, impl.ErrRange},
		{[]impl.Bind{bind(0, 0, 1, 65), bind(1, 0, 7, 0)}, impl.ErrRange},
		{[]impl.Bind{bind(1, 9, 1, 65), charBind(1, 5)}, impl.ErrRange},
		{[]impl.Bind{bind(1, 0, 6, 3), charBind(1, 0), charBind(0, 0)}, impl.ErrRange},
	}
	return wrong
}

// wrongBinds have one fault: of a key, of mods, of a sym; as the only bind, as the first, the last, and the last of 24.
func wrongBinds() []wrongList {
	var wrong []wrongList
	add := func(b impl.Bind, code int64) {
		full := bindsOfMany(24)
		for _, list := range [][]impl.Bind{{b}, {b, charBind(40, 7)}, {charBind(1, 0), b}, withBind(full, 23, b), withBind(full, 0, b)} {
			wrong = append(wrong, wrongList{list, code})
		}
	}
	for _, n := range noKeys {
		add(bind(n, 3, 1, 65), impl.ErrRange)
	}
	for _, n := range noMods {
		add(bind(30, n, 1, 65), impl.ErrRange)
		add(bind(1, n, 1, 65), impl.ErrRange)
	}
	for _, x := range wrongSyms() {
		add(impl.Bind{Key: 2, Mods: 0, Sym: x.sym}, x.code)
		add(impl.Bind{Key: 39, Mods: 7, Sym: x.sym}, x.code)
	}
	return wrong
}

func wrongLists() []wrongList {
	return slices.Concat(wrongOrders(), wrongTogether(), wrongBinds())
}

// fewWrongLists have each code, alone and together, without all the numbers of wrongBinds.
func fewWrongLists() []wrongList {
	lists := slices.Concat(wrongOrders(), wrongTogether())
	for i, x := range wrongBinds() {
		if i%37 == 0 {
			lists = append(lists, x)
		}
	}
	return lists
}

func TestKeymapConstants(t *testing.T) {
	kinds := [...]int64{impl.SymNone, impl.SymChar, impl.SymText, impl.SymMod, impl.SymLock, impl.SymDead, impl.SymConsole}
	for i, kind := range kinds {
		if kind != int64(i) {
			t.Errorf("kind %d is the number %d", i, kind)
		}
	}
	if impl.MaxBinds != 24 || impl.MaxKey != 40 {
		t.Error(impl.MaxBinds, impl.MaxKey)
	}
}

func TestSymFault(t *testing.T) {
	for _, s := range goodSyms() {
		if code := impl.SymFault(s); code != impl.OK {
			t.Errorf("SymFault(%v) = %d, want 0", s, code)
		}
	}
	for _, x := range wrongSyms() {
		if code := impl.SymFault(x.sym); code != x.code {
			t.Errorf("SymFault(%v) = %d, want %d", x.sym, code, x.code)
		}
	}
}

// Each kind from -1 to 7 with each value around its bounds: the values of a kind are written out here, all others are none.
func TestSymFaultBounds(t *testing.T) {
	values := map[int64][]int64{0: {0}, 2: {0, 1, 2, 3}, 3: {1, 2, 4}, 4: {0}, 5: {1, 2, 3}, 6: {0, 1, 2}}
	for value := int64(-300); value <= 66000; value++ {
		for kind := int64(-1); kind <= 7; kind++ {
			want := codeIf(!slices.Contains(values[kind], value), impl.ErrRange)
			switch kind {
			case -1, 7:
				want = impl.ErrForm
			case impl.SymChar:
				want = codeIf(value < 0 || value > 65535 || isSurrogate(value), impl.ErrRange)
			}
			if code := impl.SymFault(sym(kind, value)); code != want {
				t.Fatalf("SymFault(%d, %d) = %d, want %d", kind, value, code, want)
			}
		}
	}
}

func TestBindsFault(t *testing.T) {
	for _, list := range goodBinds() {
		if code := impl.BindsFault(list); code != impl.OK {
			t.Errorf("BindsFault(%v) = %d, want 0", list, code)
		}
	}
	codes := map[int64]int{}
	for _, x := range wrongLists() {
		codes[x.code]++
		if code := impl.BindsFault(x.list); code != x.code {
			t.Errorf("BindsFault(%v) = %d, want %d", x.list, code, x.code)
		}
	}
	if codes[impl.ErrForm] == 0 || codes[impl.ErrMany] == 0 || codes[impl.ErrRange] == 0 || len(codes) != 3 {
		t.Errorf("faults that were asked: %v", codes)
	}
}

// A sym that may be told may be bound, with every key and all mods.
func TestBindsFaultBounds(t *testing.T) {
	for key := int64(-3); key <= 45; key++ {
		for mods := int64(-3); mods <= 12; mods++ {
			want := codeIf(key < 1 || key > 40 || mods < 0 || mods > 7, impl.ErrRange)
			for _, s := range goodSyms() {
				if code := impl.BindsFault([]impl.Bind{{Key: key, Mods: mods, Sym: s}}); code != want {
					t.Fatalf("BindsFault of key %d with %d and %v = %d, want %d", key, mods, s, code, want)
				}
			}
		}
	}
}

// Two binds of all places: it is just those whose second one stands behind that have no fault, whatever their syms.
func TestBindsFaultRises(t *testing.T) {
	for _, a := range []int64{1, 2, 3, 20, 39, 40} {
		for _, b := range []int64{1, 2, 3, 20, 39, 40} {
			for i := range int64(64) {
				first, second := i%8, i/8
				want := codeIf(100*b+second <= 100*a+first, impl.ErrForm)
				for _, value := range []int64{0, 65, 65535} {
					list := []impl.Bind{bind(a, first, 1, 65), bind(b, second, 1, value)}
					if code := impl.BindsFault(list); code != want {
						t.Fatalf("BindsFault(%v) = %d, want %d", list, code, want)
					}
				}
			}
		}
	}
}

// The fault of a list is told ahead of a key, mods and a sym that are none; nothing is told beside it.
func TestBindsFaultIsAskedFirst(t *testing.T) {
	asked := []impl.Bind{charBind(5, 1), charBind(1, 0), charBind(40, 7), bind(0, 0, 1, 65), bind(41, 0, 1, 65), bind(1, 8, 1, 65), bind(1, -1, 7, 0), bind(1, 0, 7, 0), bind(1, 0, 3, 3), {}}
	for _, x := range wrongLists() {
		for _, b := range asked {
			if r := impl.PutBind(x.list, b); r.Code != x.code || len(r.Binds) != 0 {
				t.Fatalf("PutBind(%v, %v) = %v, want %d", x.list, b, r, x.code)
			}
			if r := impl.SymOf(x.list, b.Key, b.Mods); r != (impl.SymResult{Code: x.code}) {
				t.Fatalf("SymOf(%v, %d, %d) = %v, want %d", x.list, b.Key, b.Mods, r, x.code)
			}
		}
	}
}
