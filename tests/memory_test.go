package tests

import "reflect"

// A span is the memory of one list, the spare room behind it too.
type span struct{ from, to uintptr }

func spansOf(v reflect.Value) []span {
	var l []span
	switch v.Kind() {
	case reflect.Struct:
		for k := range v.NumField() {
			l = append(l, spansOf(v.Field(k))...)
		}
	case reflect.Slice:
		if v.Cap() > 0 {
			l = append(l, span{v.Pointer(), v.Pointer() + uintptr(v.Cap())*v.Type().Elem().Size()})
		}
		for k := range v.Len() {
			l = append(l, spansOf(v.Index(k))...)
		}
	}
	return l
}

// shareMemory asks whether any two lists of all these things do.
func shareMemory(things ...any) bool {
	var all []span
	for _, x := range things {
		all = append(all, spansOf(reflect.ValueOf(x))...)
	}
	for k, a := range all {
		for _, b := range all[:k] {
			if a.from < b.to && b.from < a.to {
				return true
			}
		}
	}
	return false
}
