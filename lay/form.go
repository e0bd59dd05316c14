package lay

import (
	"slices"

	"cellar/api"
	"cellar/word"
)

func isMachine(a api.Abi) bool {
	_, e := word.Size(a, api.KPtr)
	return e == api.OK
}

// haveForm is whether types may be but for their sizes, and how many scalars they have.
func haveForm(l []api.Type) bool {
	if len(l) > api.MaxTypes {
		return false
	}
	for i, t := range l {
		if !hasForm(t, i) {
			return false
		}
	}
	return true
}

// hasForm is whether a type may be that has so many ahead of it.
func hasForm(t api.Type, ahead int) bool {
	if hasFields(t) {
		return t.N == 0 && t.Of == 0 && areParts(t.Parts, ahead) && areNames(t.Names, len(t.Parts))
	}
	if len(t.Names) > 0 || len(t.Parts) > 0 {
		return false
	}
	if t.Kind == api.KArray {
		return t.N >= 1 && t.N <= api.MaxArray && isAhead(t.Of, ahead)
	}
	return isScalar(t.Kind) && t.N == 0 && t.Of == 0
}

func hasFields(t api.Type) bool {
	return t.Kind == api.KStruct || t.Kind == api.KUnion
}

func isScalar(kind int) bool {
	_, e := word.Name(kind)
	return e == api.OK
}

func isAhead(place int, ahead int) bool {
	return place >= 0 && place < ahead
}

func areParts(parts []int, ahead int) bool {
	if len(parts) < 1 || len(parts) > api.MaxFields {
		return false
	}
	for _, part := range parts {
		if !isAhead(part, ahead) {
			return false
		}
	}
	return true
}

// areNames is whether there are so many names, unlike.
func areNames(names []string, many int) bool {
	if len(names) != many {
		return false
	}
	for i, s := range names {
		if !isName(s) || slices.Contains(names[:i], s) {
			return false
		}
	}
	return true
}

func isName(s string) bool {
	if len(s) < 1 || len(s) > api.MaxName {
		return false
	}
	for i := range len(s) {
		letter := s[i] >= 'a' && s[i] <= 'z'
		digit := s[i] >= '0' && s[i] <= '9'
		if !letter && (!digit || i == 0) {
			return false
		}
	}
	return true
}
