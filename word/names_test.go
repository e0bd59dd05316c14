package word

import (
	"testing"

	"cellar/api"
)

// P1.2: whatever is kept, Name and Kind tell what the function says.
func TestNamesWhateverIsKept(t *testing.T) {
	if s, e := Name(api.KU8); s != "u8" || e != api.OK {
		t.Errorf("Name(KU8) = %q, %d", s, e)
	}
	kept := names
	defer func() { names = kept }()
	for _, spoilt := range []string{"", "ptr", "u8", "none"} {
		for i := range names {
			names[i] = spoilt
		}
		for kind, want := range []string{"", "u8", "i8", "u16", "i16", "u32", "i32", "ptr"} {
			if want == "" {
				continue
			}
			if s, e := Name(kind); s != want || e != api.OK {
				t.Errorf("kept %q: Name(%d) = %q, %d; want %q", spoilt, kind, s, e, want)
			}
			if k, e := Kind(want); k != kind || e != api.OK {
				t.Errorf("kept %q: Kind(%q) = %d, %d; want %d", spoilt, want, k, e, kind)
			}
		}
		if k, e := Kind("none"); k != 0 || e != api.ErrNone {
			t.Errorf("kept %q: Kind(none) = %d, %d", spoilt, k, e)
		}
	}
}

// P1.2: the kept names are those of the function, and are there once Name was asked.
func TestNamesAreKept(t *testing.T) {
	for kind := api.KU8; kind <= api.KPtr; kind++ {
		s, e := Name(kind)
		if e != api.OK || names[kind] != s {
			t.Errorf("kind %d: kept %q, told %q, %d", kind, names[kind], s, e)
		}
	}
}
