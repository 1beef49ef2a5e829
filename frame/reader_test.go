package frame

import (
	"testing"

	"arbor/api"
)

func TestCheckNumber(t *testing.T) {
	for _, c := range []struct {
		text string
		want uint16
	}{{"", 65535}, {"123456789", 10673}, {"\x02\x00\x00", 162*256 + 252}} {
		if got := checkNumber([]byte(c.text)); got != c.want {
			t.Errorf("checkNumber(%q) = %d, want %d", c.text, got, c.want)
		}
	}
}

// caughtFrom tells what the reader panics with at bytes.
func caughtFrom(b []byte) (caught any) {
	defer func() { caught = recover() }()
	read(b)
	return nil
}

// TestReaderPanics: at bytes that are no frame the reader itself panics, with its own type and no other.
func TestReaderPanics(t *testing.T) {
	good := []byte{1, 0, 1, 1, 0, 0, 0, 0, 153, 28}
	if caught := caughtFrom(good); caught != nil {
		t.Errorf("read(%v) panics with %v", good, caught)
	}
	for n := range good {
		if _, ok := caughtFrom(good[:n]).(noFrame); !ok {
			t.Errorf("read(%v) does not panic with noFrame", good[:n])
		}
		bad := append([]byte(nil), good...)
		bad[n]++
		if _, ok := caughtFrom(bad).(noFrame); !ok {
			t.Errorf("read(%v) does not panic with noFrame", bad)
		}
	}
}

// FuzzDecode: whatever the bytes are, Decode answers, and what it takes for a frame is one that Encode tells.
func FuzzDecode(f *testing.F) {
	f.Add([]byte{})
	f.Add([]byte{2, 0, 0, 162, 252})
	f.Add([]byte{1, 0, 1, 1, 0, 0, 0, 0, 153, 28})
	f.Add([]byte{1, 0, 1, 1, 0, 2, 0, 0, 153, 28})
	f.Fuzz(func(t *testing.T, b []byte) {
		got, e := Decode(b)
		if e != api.OK {
			if e != api.ErrFrame || got != (api.Frame{}) {
				t.Fatalf("Decode(%v) = %+v, %d", b, got, e)
			}
			return
		}
		if back, e := Encode(got); e != api.OK || string(back) != string(b) {
			t.Fatalf("Decode(%v) = %+v, which is %v, %d", b, got, back, e)
		}
	})
}
