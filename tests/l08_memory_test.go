package tests

import (
	"fmt"
	"slices"
	"sync"
	"testing"

	"loop.example/g00523/impl"
)

// markBind is in no list of the tests.
var markBind = bind(-7, -8, -9, -10)

// allBinds are lists without and with a fault.
func allBinds() [][]impl.Bind {
	lists := goodBinds()
	for _, x := range fewWrongLists() {
		lists = append(lists, x.list)
	}
	return lists
}

// keymapAnswers calls every function of chapter 8 with that list and number, and tells all answers.
func keymapAnswers(list []impl.Bind, n int64) string {
	out := fmt.Sprint(impl.BindsFault(list), impl.AccentChar(n), impl.ComposeChar(n, 'a'), impl.ComposeChar(3, n), impl.ComposeChar(n, n))
	for _, b := range []impl.Bind{bind(n, 1, 1, 65), bind(2, n, 1, 65), bind(2, 0, n, 1), bind(2, 0, 1, n), bind(n, n, n, n), bind(33, 5, 3, n), bind(n, 0, 4, 0)} {
		out += fmt.Sprint(impl.SymFault(b.Sym), impl.SymOf(list, b.Key, b.Mods), impl.PutBind(list, b))
	}
	return out
}

func keymapNumbers() []int64 {
	return slices.Concat([]int64{-1, 0, 1, 2, 3, 4, 5, 6, 7, 8, 9, 20, 39, 40, 41, 97, 55296, 65535, 65536}, bigNumbers)
}

func TestBindsStay(t *testing.T) {
	for _, list := range allBinds() {
		short, whole := withRoom(list, markBind)
		before := slices.Clone(whole)
		for _, n := range keymapNumbers() {
			keymapAnswers(short, n)
			if !slices.Equal(whole, before) {
				t.Fatalf("the binds %v were changed at %d", list, n)
			}
		}
	}
}

// An answer that is overwritten turns no argument and no other answer, and an argument no answer.
func TestBindsAnswersAreNew(t *testing.T) {
	for _, list := range goodBinds() {
		for _, b := range append(slices.Clone(list), charBind(1, 0), charBind(2, 0), charBind(5, 2), charBind(23, 3), charBind(40, 7)) {
			short, whole := withRoom(list, markBind)
			before := slices.Clone(whole)
			first, second := impl.PutBind(short, b), impl.PutBind(short, b)
			want := slices.Clone(first.Binds)
			overwrite(first.Binds, bind(1, 2, 3, 4))
			if !slices.Equal(whole, before) {
				t.Fatalf("PutBind(%v, %v) answers memory of its list", list, b)
			}
			if !slices.Equal(second.Binds, want) || !slices.Equal(impl.PutBind(short, b).Binds, want) {
				t.Fatalf("answers of PutBind(%v, %v) share memory", list, b)
			}
			overwrite(whole, bind(5, 6, 7, 8))
			if !slices.Equal(second.Binds, want) {
				t.Fatalf("the answer of PutBind(%v, %v) turns with its list", list, b)
			}
		}
	}
}

// A list goes on from an answer as often as one wants: what is bound next turns nothing of it.
func TestBindsGoOnTwice(t *testing.T) {
	for n := range 24 {
		begun := impl.PutBind(bindsOfMany(n), charBind(39, 4)).Binds
		want := slices.Clone(begun)
		one := impl.PutBind(begun, charBind(40, 1))
		kept := slices.Clone(one.Binds)
		two := impl.PutBind(begun, charBind(40, 2))
		if !slices.Equal(begun, want) || !slices.Equal(one.Binds, kept) || n < 23 && slices.Equal(one.Binds, two.Binds) {
			t.Fatalf("from %d binds on: %v, %v and %v", n, begun, one, two)
		}
	}
}

// Whatever comes in, from however many callers, in whatever order: nothing panics, and the same call answers the same.
func TestKeymapsAnswerAtEveryArgument(t *testing.T) {
	lists, numbers := allBinds(), keymapNumbers()
	all := make([][]string, 3)
	var wait sync.WaitGroup
	for i := range all {
		wait.Go(func() {
			for _, list := range lists {
				for _, n := range numbers {
					all[i] = append(all[i], keymapAnswers(list, n))
				}
			}
		})
	}
	wait.Wait()
	for i, list := range slices.Backward(lists) {
		for j, n := range slices.Backward(numbers) {
			want := keymapAnswers(list, n)
			for _, one := range all {
				if one[i*len(numbers)+j] != want {
					t.Fatalf("other answers at %v, %d", list, n)
				}
			}
		}
	}
}

func TestNoBindsAndNil(t *testing.T) {
	for _, n := range keymapNumbers() {
		if a, b := keymapAnswers(nil, n), keymapAnswers([]impl.Bind{}, n); a != b {
			t.Fatalf("with nil %s, with an empty list %s", a, b)
		}
	}
}
