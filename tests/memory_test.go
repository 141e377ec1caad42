package tests

import (
	"reflect"
	"testing"
)

// room is the memory of one slice, up to its capacity.
type room struct{ from, to uintptr }

// roomsOf lists the memory of all slices that a value has, at any depth.
func roomsOf(v reflect.Value) []room {
	var list []room
	switch v.Kind() {
	case reflect.Slice:
		if size := uintptr(v.Cap()) * v.Type().Elem().Size(); size > 0 {
			start := v.Pointer()
			list = append(list, room{start, start + size})
		}
		for i := range v.Len() {
			list = append(list, roomsOf(v.Index(i))...)
		}
	case reflect.Struct:
		for i := range v.NumField() {
			list = append(list, roomsOf(v.Field(i))...)
		}
	}
	return list
}

// sharing reports whether two slices of some values have memory in common.
func sharing(values ...any) bool {
	var list []room
	for _, value := range values {
		for _, r := range roomsOf(reflect.ValueOf(value)) {
			for _, other := range list {
				if r.from < other.to && other.from < r.to {
					return true
				}
			}
			list = append(list, r)
		}
	}
	return false
}

// The helper itself must see what the tests rely on.
func TestSharing(t *testing.T) {
	type pair struct{ a, b []int }
	long := make([]int, 6, 12)
	for _, test := range []struct {
		name   string
		values []any
		want   bool
	}{
		{"the same slice", []any{long, long}, true},
		{"two parts that overlap", []any{long[:3], long[2:5]}, true},
		{"the capacity only", []any{long[:3], long[3:]}, true},
		{"parts with their own capacity", []any{long[:3:3], long[3:6]}, false},
		{"two fields", []any{pair{long, long[1:]}}, true},
		{"two rows", []any{[][]int{long, long}}, true},
		{"clones", []any{long, append([]int{}, long...)}, false},
		{"empty slices", []any{[]int{}, []int{}, []int(nil)}, false},
		{"no slices", []any{1, "a", true}, false},
	} {
		if got := sharing(test.values...); got != test.want {
			t.Errorf("%s: sharing is %v", test.name, got)
		}
	}
}
