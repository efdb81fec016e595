package tests

import (
	"cmp"
	"reflect"
	"slices"
	"testing"
)

// foul stands for every number in the room behind a list; no number of a test is like it.
const foul = -77777

// rebuild makes a copy of v in own, of which each list is what list makes of it.
func rebuild(own reflect.Value, v reflect.Value, list func(l reflect.Value) reflect.Value) {
	switch v.Kind() {
	case reflect.Struct:
		own.Set(v)
		for i := range v.NumField() {
			if k := v.Field(i).Kind(); k == reflect.Struct || k == reflect.Slice {
				rebuild(own.Field(i), v.Field(i), list)
			}
		}
	case reflect.Slice:
		own.Set(list(v))
	default:
		own.Set(v)
	}
}

func rebuilt(v any, list func(l reflect.Value) reflect.Value) any {
	own := reflect.New(reflect.TypeOf(v)).Elem()
	rebuild(own, reflect.ValueOf(v), list)
	return own.Interface()
}

// fill copies all of l into own, which may be longer, with lists inside of it rebuilt.
func fill(own reflect.Value, l reflect.Value, list func(l reflect.Value) reflect.Value) {
	if flat(l.Type().Elem()) {
		reflect.Copy(own, l)
		return
	}
	for i := range l.Len() {
		rebuild(own.Index(i), l.Index(i), list)
	}
}

// flat tells of a kind of value that there are no lists in it.
func flat(kind reflect.Type) bool {
	switch kind.Kind() {
	case reflect.Slice:
		return false
	case reflect.Struct:
		for i := range kind.NumField() {
			if !flat(kind.Field(i).Type) {
				return false
			}
		}
	}
	return true
}

// plain is a copy of v in which there is nothing behind any list, and each empty list is nil.
func plain[T any](v T) T {
	var list func(l reflect.Value) reflect.Value
	list = func(l reflect.Value) reflect.Value {
		if l.Len() == 0 {
			return reflect.Zero(l.Type())
		}
		own := reflect.MakeSlice(l.Type(), l.Len(), l.Len())
		fill(own, l, list)
		return own
	}
	return rebuilt(v, list).(T)
}

// whole is a copy of v in which what was behind each list is a part of that.
func whole(v any) any {
	var list func(l reflect.Value) reflect.Value
	list = func(l reflect.Value) reflect.Value {
		l = l.Slice(0, l.Cap())
		own := reflect.MakeSlice(l.Type(), l.Len(), l.Len())
		fill(own, l, list)
		return own
	}
	return rebuilt(v, list)
}

// roomy is a copy of v with foul room behind each list.
func roomy[T any](v T) T {
	var list func(l reflect.Value) reflect.Value
	list = func(l reflect.Value) reflect.Value {
		own := reflect.MakeSlice(l.Type(), l.Len()+spare, l.Len()+spare)
		fill(own, l, list)
		for i := range spare {
			own.Index(l.Len() + i).Set(fouled(l.Type().Elem()))
		}
		return own.Slice(0, l.Len())
	}
	return rebuilt(v, list).(T)
}

func fouled(kind reflect.Type) reflect.Value {
	v := reflect.New(kind).Elem()
	switch kind.Kind() {
	case reflect.Int:
		v.SetInt(foul)
	case reflect.Struct:
		for i := range v.NumField() {
			v.Field(i).Set(fouled(v.Field(i).Type()))
		}
	case reflect.Slice:
		v.Set(reflect.Append(v, fouled(kind.Elem())))
	}
	return v
}

// stretch is where a list lies, with the room behind it.
type stretch struct{ from, to uintptr }

// lookThrough calls number and list for each number and each list in v, and in the room behind lists.
func lookThrough(v reflect.Value, number func(x int64), list func(s stretch)) {
	switch v.Kind() {
	case reflect.Int:
		number(v.Int())
	case reflect.Struct:
		for i := range v.NumField() {
			lookThrough(v.Field(i), number, list)
		}
	case reflect.Slice:
		if v.Cap() > 0 {
			list(stretch{v.Pointer(), v.Pointer() + uintptr(v.Cap())*v.Type().Elem().Size()})
		}
		room := v.Slice(0, v.Cap())
		for i := range room.Len() {
			lookThrough(room.Index(i), number, list)
		}
	}
}

// sharing tells whether two lists, anywhere in all of these, have memory in common.
func sharing(values ...any) bool {
	var l []stretch
	for _, v := range values {
		lookThrough(reflect.ValueOf(v), func(int64) {}, func(s stretch) { l = append(l, s) })
	}
	slices.SortFunc(l, func(a stretch, b stretch) int { return cmp.Compare(a.from, b.from) })
	for i := 1; i < len(l); i++ {
		if l[i-1].to > l[i].from {
			return true
		}
	}
	return false
}

func isFoul(v any) bool {
	found := false
	lookThrough(reflect.ValueOf(v), func(x int64) { found = found || x == foul }, func(stretch) {})
	return found
}

// same holds an empty list and nil for the same value.
func same[T any](a T, b T) bool {
	return reflect.DeepEqual(plain(a), plain(b))
}

// answers fails where call, made twice, answers anything but want, writes into args or the room behind
// them, hands that room out, or where any two lists of args and of both answers share memory.
func answers[T any](t *testing.T, name string, want T, call func() T, args ...any) {
	t.Helper()
	before := make([]any, len(args))
	for i, v := range args {
		before[i] = whole(v)
	}
	one, other := call(), call()
	if want = plain(want); !reflect.DeepEqual(plain(one), want) || !reflect.DeepEqual(plain(other), want) {
		t.Fatalf("%s: %+v, not %+v", name, one, want)
	}
	for i, v := range args {
		if !reflect.DeepEqual(whole(v), before[i]) {
			t.Fatalf("%s: an argument, or the room behind it, was written into", name)
		}
	}
	if isFoul(one) || isFoul(other) {
		t.Fatalf("%s: what lies behind an argument was handed out", name)
	}
	if sharing(append([]any{one, other}, args...)...) {
		t.Fatalf("%s: two lists share memory", name)
	}
}

type innerList struct{ L []int }

type outerList struct {
	N int
	L []innerList
}

func TestTheChecksOfMemory(t *testing.T) {
	v := outerList{1, []innerList{{[]int{2, 3}}, {nil}}}
	r := roomy(v)
	if !same(r, v) || !isFoul(r) || isFoul(v) || cap(r.L) != 2+spare || cap(r.L[0].L) != 2+spare {
		t.Fatal("no room is made:", r)
	}
	if same(v, outerList{1, []innerList{{[]int{2, 4}}, {nil}}}) || !same(v, outerList{1, []innerList{{[]int{2, 3}}, {[]int{}}}}) {
		t.Fatal("what is the same is not seen")
	}
	before := whole(r)
	r.L[0].L[:3][2] = 9
	if reflect.DeepEqual(whole(r), before) {
		t.Fatal("what is written behind a list is not seen")
	}
	twice := outerList{0, []innerList{{r.L[0].L[2:4]}, {r.L[0].L[:3]}}}
	if !sharing(v, v) || !sharing(r.L[0].L[:1:1], r) || !sharing(r, r.L[1:1]) || !sharing(twice) {
		t.Fatal("what is shared is not seen")
	}
	if sharing(v, r, 5, true) || sharing(r.L[0].L[:1:1], r.L[0].L[1:]) {
		t.Fatal("what is not shared is seen")
	}
}
