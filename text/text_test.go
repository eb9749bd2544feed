package text_test

import (
	"math"
	"strings"
	"testing"

	"withy/api"
	"withy/text"
)

// gets looks whether Get tells a text, the place behind it, and no error; or an error, and nothing beside it.
func gets(t *testing.T, s string, at int, want string, behind int, e api.Errno) {
	t.Helper()
	if got, next, f := text.Get(s, at); got != want || next != behind || f != e {
		t.Fatalf("Get(%.40q, %d): %.40q, %d, %d; want %.40q, %d, %d", s, at, got, next, f, want, behind, e)
	}
}

// What is put is got, behind and ahead of other bytes, and not without its last byte.
func TestPutAndGet(t *testing.T) {
	for n := range 3000 {
		s := strings.Repeat("k", n)
		put := text.Put(s)
		gets(t, put, 0, s, len(put), api.OK)
		gets(t, "ab"+put+"cd", 2, s, 2+len(put), api.OK)
		gets(t, put[:len(put)-1], 0, "", 0, api.ErrShort)
	}
}

func TestPutBytes(t *testing.T) {
	for s, want := range map[string]string{"": "\x00", "a": "\x01a", "\x00\xff": "\x02\x00\xff", strings.Repeat("k", 240): "\xf0" + strings.Repeat("k", 240), strings.Repeat("k", 241): "\xf1\x01" + strings.Repeat("k", 241)} {
		if got := text.Put(s); got != want {
			t.Fatalf("Put(%.20q): %.20q; want %.20q", s, got, want)
		}
	}
}

// Places that are none, texts that end too early, numbers written with more bytes than they need, and very great ones.
func TestGetErrors(t *testing.T) {
	for _, at := range []int{math.MinInt, -1, 3, 4, math.MaxInt} {
		gets(t, "\x01a", at, "", 0, api.ErrArg)
	}
	for _, s := range []string{"", "\x01", "\x03ab", "\xf1", "\xf1\x01", "\xff\xff\xff\xff\xff\xff\xff\xff\xff", "\xff\x80\x00\x00\x00\x00\x00\x00\x00", "\xff\x7f\xff\xff\xff\xff\xff\xff\xff"} {
		gets(t, s, 0, "", 0, api.ErrShort)
		gets(t, "\x01a"+s, 2, "", 0, api.ErrShort)
	}
	gets(t, "\xfa\x00\x00\x01a", 0, "", 0, api.ErrForm)
	gets(t, "\xf1\x00"+strings.Repeat("k", 240), 0, "", 0, api.ErrForm)
}
