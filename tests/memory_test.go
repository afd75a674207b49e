package tests

import (
	"cmp"
	"reflect"
	"slices"
	"sync"
	"testing"
)

// remade is v over new lists, each of them made by list out of the old one,
// however deep it stands.
func remade(v reflect.Value, list func(reflect.Value) reflect.Value) reflect.Value {
	made := reflect.New(v.Type()).Elem()
	switch v.Kind() {
	case reflect.Struct:
		for i := 0; i < v.NumField(); i++ {
			made.Field(i).Set(remade(v.Field(i), list))
		}
	case reflect.Slice:
		made.Set(list(v))
		if made.Type().Elem().Kind() == reflect.Uint8 {
			break
		}
		for i := 0; i < made.Len(); i++ {
			made.Index(i).Set(remade(made.Index(i), list))
		}
	default:
		made.Set(v)
	}
	return made
}

func copyOfList(v reflect.Value) reflect.Value {
	return reflect.AppendSlice(reflect.MakeSlice(v.Type(), 0, v.Len()), v)
}

// deepCopy is v over lists of its own.
func deepCopy[T any](v T) T {
	return remade(reflect.ValueOf(v), copyOfList).Interface().(T)
}

// wholeCopy is v over lists of its own, each with the room behind it.
func wholeCopy[T any](v T) T {
	return remade(reflect.ValueOf(v), func(list reflect.Value) reflect.Value {
		return copyOfList(list.Slice(0, list.Cap()))
	}).Interface().(T)
}

// scrawl is a value that nothing of the program makes.
func scrawl(t reflect.Type) reflect.Value {
	v := reflect.New(t).Elem()
	switch t.Kind() {
	case reflect.Int:
		v.SetInt(-777)
	case reflect.Uint8:
		v.SetUint(77)
	case reflect.Bool:
		v.SetBool(true)
	case reflect.String:
		v.SetString("SCRAWL")
	case reflect.Struct:
		for i := 0; i < t.NumField(); i++ {
			v.Field(i).Set(scrawl(t.Field(i).Type))
		}
	case reflect.Slice:
		v.Set(reflect.Append(v, scrawl(t.Elem())))
	}
	return v
}

// roomyCopy is v over lists of its own, each with scrawl in the room behind it.
func roomyCopy[T any](v T) T {
	return remade(reflect.ValueOf(v), func(list reflect.Value) reflect.Value {
		made := copyOfList(list)
		for i := 0; i < 3; i++ {
			made = reflect.Append(made, scrawl(list.Type().Elem()))
		}
		return made.Slice(0, list.Len())
	}).Interface().(T)
}

// span is the memory of one list, with the room behind it.
type span struct{ from, to uintptr }

// spansOf tells the memory of each list in v. A list of no room has none.
func spansOf(v reflect.Value) []span {
	var spans []span
	switch v.Kind() {
	case reflect.Struct:
		for i := 0; i < v.NumField(); i++ {
			spans = append(spans, spansOf(v.Field(i))...)
		}
	case reflect.Slice:
		if v.Cap() > 0 {
			spans = append(spans, span{v.Pointer(), v.Pointer() + uintptr(v.Cap())*v.Type().Elem().Size()})
		}
		for i := 0; i < v.Len(); i++ {
			spans = append(spans, spansOf(v.Index(i))...)
		}
	}
	return spans
}

func overlap(spans []span) bool {
	slices.SortFunc(spans, func(a, b span) int { return cmp.Compare(a.from, b.from) })
	for i := 1; i < len(spans); i++ {
		if spans[i].from < spans[i-1].to {
			return true
		}
	}
	return false
}

// wantOwnMemory calls do with arg over roomy lists. Neither these nor the room
// behind them may turn, no list of the answers may share memory with them, and
// no two lists of the answers with each other.
func wantOwnMemory[T any](t *testing.T, what string, arg T, do func(T) []any) {
	t.Helper()
	arg = roomyCopy(arg)
	before := wholeCopy(arg)
	answers := do(arg)
	if after := wholeCopy(arg); !reflect.DeepEqual(after, before) {
		t.Errorf("%s: the argument was %v, is %v", what, before, after)
	}
	var spans []span
	for _, a := range answers {
		spans = append(spans, spansOf(reflect.ValueOf(a))...)
	}
	if overlap(slices.Clone(spans)) {
		t.Errorf("%s: two lists of the answer share memory", what)
	} else if overlap(append(spans, spansOf(reflect.ValueOf(arg))...)) {
		t.Errorf("%s: the answer shares memory with the argument", what)
	}
}

// wantNothingKept asks what is told of each of list once, and then over and over
// by callers side by side: they are told what each alone was told.
func wantNothingKept[T any](t *testing.T, list []T, told func(T) []any) {
	t.Helper()
	var first [][]any
	for _, x := range list {
		first = append(first, told(x))
	}
	alike := make([]bool, 8)
	var all sync.WaitGroup
	for i := range alike {
		all.Go(func() {
			alike[i] = true
			for at := range list {
				at = (at + i) % len(list)
				alike[i] = alike[i] && reflect.DeepEqual(told(list[at]), first[at])
			}
		})
	}
	all.Wait()
	for i, same := range alike {
		if !same {
			t.Errorf("%d: told otherwise", i)
		}
	}
}

// sharing is a list, and one that stands in it.
type sharing struct {
	Lists [][]int
	Other []int
}

// That lists are told apart, and scrawl is seen, is itself put to the test.
func TestMemoryIsToldApart(t *testing.T) {
	one := []int{1, 2, 3, 4}
	shared := map[string]sharing{
		"one list twice":          {Lists: [][]int{one, one}},
		"one list in two fields":  {Lists: [][]int{one}, Other: one},
		"a list and its end":      {Lists: [][]int{one, one[3:]}},
		"a list and its room":     {Lists: [][]int{one[:2], one[2:]}},
		"a list of no length":     {Lists: [][]int{one}, Other: one[:0]},
		"lists that meet half-on": {Lists: [][]int{one[0:2:3], one[2:4]}},
	}
	for name, s := range shared {
		if !overlap(spansOf(reflect.ValueOf(s))) {
			t.Errorf("%s: not seen", name)
		}
		if overlap(spansOf(reflect.ValueOf(deepCopy(s)))) || overlap(spansOf(reflect.ValueOf(roomyCopy(s)))) {
			t.Errorf("%s: a copy shares memory", name)
		}
	}
	apart := sharing{Lists: [][]int{one[0:2:2], one[2:4], nil, {}}, Other: []int{5}}
	if overlap(spansOf(reflect.ValueOf(apart))) {
		t.Error("lists side by side are taken as one")
	}
	if got := wholeCopy(roomyCopy(apart)); len(got.Other) < 4 || got.Other[0] != 5 || got.Other[1] != -777 || len(got.Lists) < 7 {
		t.Errorf("with its room: %v", got)
	}
}
