package tests

import (
	"slices"
	"testing"
	"unicode"

	"loop.example/g00523/impl"
)

func rightBinds(r impl.BindsResult, want []impl.Bind) bool {
	return r.Code == impl.OK && slices.Equal(r.Binds, want) && impl.BindsFault(r.Binds) == impl.OK
}

// onlyBindsCode tells whether an answer has that code and nothing beside it.
func onlyBindsCode(r impl.BindsResult, code int64) bool {
	return r.Code == code && len(r.Binds) == 0
}

// boundTo is what a bind puts into a list, by going over all places there are, one by one.
func boundTo(list []impl.Bind, b impl.Bind) []impl.Bind {
	var out []impl.Bind
	for key := int64(1); key <= 40; key++ {
		for mods := range int64(8) {
			if key == b.Key && mods == b.Mods {
				out = append(out, b)
				continue
			}
			for _, one := range list {
				if one.Key == key && one.Mods == mods {
					out = append(out, one)
				}
			}
		}
	}
	return out
}

// toldBy is what a key tells, by going over the list once with its mods and once without.
func toldBy(list []impl.Bind, key, mods int64) impl.Sym {
	for _, b := range list {
		if b.Key == key && b.Mods == mods {
			return b.Sym
		}
	}
	for _, b := range list {
		if b.Key == key && b.Mods == 0 {
			return b.Sym
		}
	}
	return impl.Sym{}
}

// bindsNear are binds at all places of a list and beside them, and at the edges.
func bindsNear(list []impl.Bind) []impl.Bind {
	near := []impl.Bind{charBind(1, 0), charBind(1, 7), charBind(40, 0), charBind(40, 7)}
	for _, b := range list {
		for key := max(b.Key-1, 1); key <= min(b.Key+1, 40); key++ {
			near = append(near, charBind(key, b.Mods), charBind(key, 0), charBind(key, 7), charBind(key, (b.Mods+1)%8))
		}
	}
	for i := range near {
		near[i].Sym = sym(impl.SymChar, 60000+near[i].Key*8+near[i].Mods)
	}
	return slices.CompactFunc(near, func(a, b impl.Bind) bool { return a == b })
}

func TestPutBindByHand(t *testing.T) {
	a, b, c, d := bind(5, 1, 1, 65), bind(5, 4, 1, 66), bind(9, 0, 3, 2), bind(20, 7, 4, 0)
	four := []impl.Bind{a, b, c, d}
	for _, x := range []struct {
		put  impl.Bind
		want []impl.Bind
	}{
		// Ahead of all, behind all, and between.
		{bind(1, 0, 1, 90), []impl.Bind{bind(1, 0, 1, 90), a, b, c, d}},
		{bind(4, 7, 1, 90), []impl.Bind{bind(4, 7, 1, 90), a, b, c, d}},
		{bind(40, 7, 1, 90), []impl.Bind{a, b, c, d, bind(40, 7, 1, 90)}},
		{bind(21, 0, 1, 90), []impl.Bind{a, b, c, d, bind(21, 0, 1, 90)}},
		{bind(7, 7, 1, 90), []impl.Bind{a, b, bind(7, 7, 1, 90), c, d}},
		{bind(10, 0, 1, 90), []impl.Bind{a, b, c, bind(10, 0, 1, 90), d}},
		// The same key with other mods.
		{bind(5, 0, 1, 90), []impl.Bind{bind(5, 0, 1, 90), a, b, c, d}},
		{bind(5, 2, 1, 90), []impl.Bind{a, bind(5, 2, 1, 90), b, c, d}},
		{bind(5, 7, 1, 90), []impl.Bind{a, b, bind(5, 7, 1, 90), c, d}},
		{bind(9, 1, 1, 90), []impl.Bind{a, b, c, bind(9, 1, 1, 90), d}},
		{bind(20, 6, 1, 90), []impl.Bind{a, b, c, bind(20, 6, 1, 90), d}},
		// Instead of the first, the middle ones and the last.
		{bind(5, 1, 1, 90), []impl.Bind{bind(5, 1, 1, 90), b, c, d}},
		{bind(5, 4, 5, 3), []impl.Bind{a, bind(5, 4, 5, 3), c, d}},
		{bind(9, 0, 0, 0), []impl.Bind{a, b, bind(9, 0, 0, 0), d}},
		{bind(20, 7, 6, 2), []impl.Bind{a, b, c, bind(20, 7, 6, 2)}},
		{a, four}, {b, four}, {c, four}, {d, four},
	} {
		if r := impl.PutBind(four, x.put); !rightBinds(r, x.want) {
			t.Errorf("PutBind of %v = %v, want %v", x.put, r, x.want)
		}
	}
	for _, list := range [][]impl.Bind{nil, {}} {
		if r := impl.PutBind(list, d); !rightBinds(r, []impl.Bind{d}) {
			t.Errorf("PutBind to nothing = %v", r)
		}
	}
}

func TestPutBindEverywhere(t *testing.T) {
	for _, list := range goodBinds() {
		for key := int64(1); key <= 40; key++ {
			for mods := range int64(8) {
				b := bind(key, mods, impl.SymText, 3)
				r, want := impl.PutBind(list, b), boundTo(list, b)
				if len(want) > 24 {
					if !onlyBindsCode(r, impl.ErrMany) {
						t.Fatalf("PutBind(%v, %v) = %v, want ErrMany", list, b, r)
					}
					continue
				}
				if !rightBinds(r, want) {
					t.Fatalf("PutBind(%v, %v) = %v, want %v", list, b, r, want)
				}
			}
		}
	}
}

// Each fault of the bind alone; of a full list as well, where it is told ahead of ErrMany.
func TestPutBindWrong(t *testing.T) {
	for _, list := range goodBinds() {
		for _, s := range []impl.Sym{sym(1, 65), sym(7, 0), sym(3, 3), {}} {
			for _, n := range noKeys {
				if r := impl.PutBind(list, impl.Bind{Key: n, Mods: 3, Sym: s}); !onlyBindsCode(r, impl.ErrRange) {
					t.Fatalf("PutBind(%v) of key %d and %v = %v, want ErrRange", list, n, s, r)
				}
			}
			for _, n := range noMods {
				for _, key := range []int64{1, 2, 30, 40, 41} {
					if r := impl.PutBind(list, impl.Bind{Key: key, Mods: n, Sym: s}); !onlyBindsCode(r, impl.ErrRange) {
						t.Fatalf("PutBind(%v) of key %d with mods %d and %v = %v, want ErrRange", list, key, n, s, r)
					}
				}
			}
		}
		for _, x := range wrongSyms() {
			// One place is free in most lists, the other one is there in most.
			for _, b := range []impl.Bind{{Key: 33, Mods: 5, Sym: x.sym}, {Key: 2, Mods: 0, Sym: x.sym}} {
				if r := impl.PutBind(list, b); !onlyBindsCode(r, x.code) {
					t.Fatalf("PutBind(%v, %v) = %v, want %d", list, b, r, x.code)
				}
			}
		}
	}
	for _, x := range wrongSyms() {
		for _, b := range []impl.Bind{{Key: 0, Mods: 0, Sym: x.sym}, {Key: 41, Mods: 7, Sym: x.sym}, {Key: 1, Mods: -1, Sym: x.sym}, {Key: 40, Mods: 8, Sym: x.sym}} {
			if r := impl.PutBind(nil, b); !onlyBindsCode(r, impl.ErrRange) {
				t.Fatalf("PutBind of %v = %v, want ErrRange", b, r)
			}
		}
	}
}

// The bind behind 23 has room, the next one none, but a full list still takes one instead of another.
func TestPutBindMany(t *testing.T) {
	for _, b := range []impl.Bind{bind(1, 0, 1, 90), bind(2, 1, 1, 90), bind(12, 7, 1, 90), bind(40, 7, 1, 90)} {
		r := impl.PutBind(bindsOfMany(23), b)
		if len(r.Binds) != 24 || !rightBinds(r, boundTo(bindsOfMany(23), b)) {
			t.Errorf("PutBind of %v to 23 binds = %v", b, r)
		}
		if r := impl.PutBind(bindsOfMany(24), b); !onlyBindsCode(r, impl.ErrMany) {
			t.Errorf("PutBind of %v to 24 binds = %v, want ErrMany", b, r)
		}
		if r := impl.PutBind(bindsOfMany(25), b); !onlyBindsCode(r, impl.ErrMany) {
			t.Errorf("PutBind of %v to 25 binds = %v, want ErrMany", b, r)
		}
	}
	for i, was := range bindsOfMany(24) {
		b := bind(was.Key, was.Mods, impl.SymConsole, 1)
		if r := impl.PutBind(bindsOfMany(24), b); !rightBinds(r, withBind(bindsOfMany(24), i, b)) {
			t.Errorf("PutBind of %v instead of another of 24 = %v", b, r)
		}
	}
}

// However the order in which binds are put, the list is the same; putting them once more turns nothing.
func TestPutBindInAnyOrder(t *testing.T) {
	want := bindsOfMany(24)
	for _, step := range []int{1, 5, 7, 11, 13, 17, 19, 23} {
		var list []impl.Bind
		for round := range 2 {
			for i := range 24 {
				r := impl.PutBind(list, want[(i*step+9)%24])
				if r.Code != impl.OK || round == 0 && len(r.Binds) != i+1 {
					t.Fatalf("with steps of %d: %v", step, r)
				}
				list = r.Binds
			}
			if !slices.Equal(list, want) {
				t.Errorf("with steps of %d: %v, want %v", step, list, want)
			}
		}
	}
}

func TestSymOfByHand(t *testing.T) {
	list := []impl.Bind{
		bind(3, 0, 1, 'a'),
		bind(5, 0, 1, 'b'), bind(5, 1, 1, 'B'), bind(5, 3, 5, 2),
		bind(8, 1, 2, 3), bind(8, 6, 6, 0),
		bind(9, 0, 0, 0), bind(9, 1, 3, 4),
		bind(10, 0, 4, 0), bind(10, 2, 0, 0),
	}
	for _, x := range []struct {
		key, mods int64
		want      impl.Sym
	}{
		// With Mods 0 alone.
		{3, 0, sym(1, 'a')}, {3, 1, sym(1, 'a')}, {3, 2, sym(1, 'a')}, {3, 7, sym(1, 'a')},
		// With both; mods that hold more bits than those that are bound are others.
		{5, 0, sym(1, 'b')}, {5, 1, sym(1, 'B')}, {5, 3, sym(5, 2)}, {5, 2, sym(1, 'b')}, {5, 5, sym(1, 'b')}, {5, 7, sym(1, 'b')},
		// With other Mods alone.
		{8, 0, sym(0, 0)}, {8, 1, sym(2, 3)}, {8, 6, sym(6, 0)}, {8, 2, sym(0, 0)}, {8, 7, sym(0, 0)},
		// What is bound to nothing is bound.
		{9, 0, sym(0, 0)}, {9, 1, sym(3, 4)}, {9, 2, sym(0, 0)},
		{10, 0, sym(4, 0)}, {10, 1, sym(4, 0)}, {10, 2, sym(0, 0)},
		// Not at all.
		{1, 0, sym(0, 0)}, {4, 0, sym(0, 0)}, {4, 1, sym(0, 0)}, {11, 0, sym(0, 0)}, {40, 7, sym(0, 0)},
	} {
		if r := impl.SymOf(list, x.key, x.mods); r != (impl.SymResult{Sym: x.want}) {
			t.Errorf("SymOf of %d with %d = %v, want %v", x.key, x.mods, r, x.want)
		}
	}
}

func TestSymOfEverywhere(t *testing.T) {
	for _, list := range goodBinds() {
		for key := int64(-3); key <= 45; key++ {
			for mods := int64(-3); mods <= 12; mods++ {
				want := impl.SymResult{Code: impl.ErrRange}
				if key >= 1 && key <= 40 && mods >= 0 && mods <= 7 {
					want = impl.SymResult{Sym: toldBy(list, key, mods)}
				}
				if r := impl.SymOf(list, key, mods); r != want {
					t.Fatalf("SymOf(%v, %d, %d) = %v, want %v", list, key, mods, r, want)
				}
			}
		}
		for _, key := range []int64{1, 2, 5, 40} {
			for _, n := range noMods {
				if r := impl.SymOf(list, key, n); r != (impl.SymResult{Code: impl.ErrRange}) {
					t.Fatalf("SymOf(%v, %d, %d) = %v, want ErrRange", list, key, n, r)
				}
			}
		}
		for _, n := range noKeys {
			for _, mods := range []int64{0, 1, 7, 8} {
				if r := impl.SymOf(list, n, mods); r != (impl.SymResult{Code: impl.ErrRange}) {
					t.Fatalf("SymOf(%v, %d, %d) = %v, want ErrRange", list, n, mods, r)
				}
			}
		}
	}
}

// A key that was bound tells its sym, whichever it is.
func TestBoundTellsItsSym(t *testing.T) {
	for _, list := range goodBinds() {
		for _, s := range goodSyms() {
			for _, place := range [][2]int64{{1, 0}, {2, 0}, {2, 3}, {5, 1}, {6, 2}, {23, 7}, {40, 7}} {
				b := impl.Bind{Key: place[0], Mods: place[1], Sym: s}
				put := impl.PutBind(list, b)
				if put.Code == impl.ErrMany {
					continue
				}
				if r := impl.SymOf(put.Binds, b.Key, b.Mods); r != (impl.SymResult{Sym: s}) {
					t.Fatalf("behind PutBind(%v, %v) the key tells %v", list, b, r)
				}
			}
		}
	}
}

// All others tell what they told: every other key with every mods, and of the same key the mods that were bound; those that were not fall back to what is bound without mods.
func TestOtherKeysStay(t *testing.T) {
	for _, list := range goodBinds() {
		for _, b := range bindsNear(list) {
			put := impl.PutBind(list, b)
			if put.Code == impl.ErrMany {
				continue
			}
			for key := int64(1); key <= 40; key++ {
				for mods := range int64(8) {
					want := impl.SymOf(list, key, mods)
					own := slices.ContainsFunc(list, func(one impl.Bind) bool { return one.Key == key && one.Mods == mods })
					if key == b.Key && (mods == b.Mods || b.Mods == 0 && !own) {
						want = impl.SymResult{Sym: b.Sym}
					}
					if r := impl.SymOf(put.Binds, key, mods); r != want {
						t.Fatalf("behind PutBind(%v, %v) key %d with %d tells %v, want %v", list, b, key, mods, r, want)
					}
				}
			}
		}
	}
}

func TestAccentChar(t *testing.T) {
	for accent, want := range map[int64]impl.IntResult{-1: {Code: 3}, 0: {Code: 3}, 1: {Value: 96}, 2: {Value: 39}, 3: {Value: 34}, 4: {Code: 3}, 5: {Code: 3}} {
		if r := impl.AccentChar(accent); r != want {
			t.Errorf("AccentChar(%d) = %v, want %v", accent, r, want)
		}
	}
	for _, n := range bigNumbers {
		if r := impl.AccentChar(n); r != (impl.IntResult{Code: impl.ErrRange}) {
			t.Errorf("AccentChar(%d) = %v, want ErrRange", n, r)
		}
	}
}

// composed are all letters that bear an accent: by it, and by the letter, what they are with it.
var composed = [4]map[int64]int64{
	1: {'a': 224, 'e': 232, 'o': 242, 'A': 192, 'E': 200, 'O': 210},
	2: {'a': 225, 'e': 233, 'o': 243, 'A': 193, 'E': 201, 'O': 211},
	3: {'a': 228, 'o': 246, 'u': 252, 'A': 196, 'O': 214, 'U': 220},
}

func TestComposeChar(t *testing.T) {
	for accent := int64(-1); accent <= 5; accent++ {
		for c := int64(-300); c <= 65600; c++ {
			want := impl.IntResult{Code: impl.ErrNone}
			if accent < 1 || accent > 3 || c < 0 || c > 65535 || isSurrogate(c) {
				want.Code = impl.ErrRange
			} else if whole, there := composed[accent][c]; there {
				want = impl.IntResult{Value: whole}
			}
			if r := impl.ComposeChar(accent, c); r != want {
				t.Fatalf("ComposeChar(%d, %d) = %v, want %v", accent, c, r, want)
			}
		}
		for _, n := range bigNumbers {
			if r := impl.ComposeChar(accent, n); r != (impl.IntResult{Code: impl.ErrRange}) {
				t.Errorf("ComposeChar(%d, %d) = %v, want ErrRange", accent, n, r)
			}
		}
	}
	for _, n := range bigNumbers {
		for _, c := range []int64{'a', 'A', 'o', 'z', 0, -1, 65536, n} {
			if r := impl.ComposeChar(n, c); r != (impl.IntResult{Code: impl.ErrRange}) {
				t.Errorf("ComposeChar(%d, %d) = %v, want ErrRange", n, c, r)
			}
		}
	}
}

// A letter with an accent is a character of its own, and the large one is the small one made large.
func TestComposedAreOfTheirOwn(t *testing.T) {
	by := map[int64]int64{}
	for accent := int64(1); accent <= 3; accent++ {
		for c := range int64(300) {
			r := impl.ComposeChar(accent, c)
			if r.Code != impl.OK {
				continue
			}
			if other, there := by[r.Value]; there || r.Value < 128 {
				t.Errorf("%d with %d is %d, as %d is", c, accent, r.Value, other)
			}
			by[r.Value] = c
			if impl.EncodeChar(r.Value).Code != impl.OK || !unicode.IsLetter(rune(r.Value)) {
				t.Errorf("%d with %d is %d, which is no letter", c, accent, r.Value)
			}
			large := impl.ComposeChar(accent, int64(unicode.ToUpper(rune(c))))
			if large.Code != impl.OK || large.Value != int64(unicode.ToUpper(rune(r.Value))) {
				t.Errorf("%d with %d is %d, but the large one %v", c, accent, r.Value, large)
			}
			if impl.ComposeChar(accent, r.Value).Code != impl.ErrNone {
				t.Errorf("%d bears accent %d twice", c, accent)
			}
		}
	}
	if len(by) != 18 {
		t.Errorf("%d letters bear accents, want 18", len(by))
	}
}
