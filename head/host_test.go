package head_test

import (
	"strings"
	"testing"

	"tollgate/api"
	"tollgate/head"
)

func wantHost(t *testing.T, s, want string, wantOk bool) {
	t.Helper()
	if host, ok := head.Host(s); host != want || ok != wantOk {
		t.Errorf("Host(%.200q): %q, %t; want %q, %t", s, host, ok, want, wantOk)
	}
}

// P9.2: the host of a host's text, with a port of none to five digits; P9.5: in small letters.
func TestHost(t *testing.T) {
	for s, want := range map[string]string{
		"a":            "a",
		"A":            "a",
		"X.y:80":       "x.y",
		"A.b:":         "a.b",
		"a:1":          "a",
		"a:12":         "a",
		"a:123":        "a",
		"a:1234":       "a",
		"a:12345":      "a",
		"a:99999":      "a",
		"a:00000":      "a",
		"0":            "0",
		"-":            "-",
		"-.-":          "-.-",
		"127.0.0.1:8":  "127.0.0.1",
		"AZ-az.09.Mm":  "az-az.09.mm",
		"a.b.c.d.e.f:": "a.b.c.d.e.f",
	} {
		wantHost(t, s, want, true)
	}
}

// P9.2: what is no host's text.
func TestNoHost(t *testing.T) {
	for _, s := range []string{
		"", ".", ":", ":80", "a.", ".a", "a..b", "a.:80", ".:1", "a:123456", "a:1234567890", "a:b", "a:1b", "a:-1", "a:+1", "a: 1", "a:1 ", "a::", "a::1", "a:1:",
		" a", "a ", "a b", "a_b", "a/", "a/b", "a?", "a@b", "a%41", "[::1]", "a\t", "a\x00", "a\r", "a\n", "a\x7f", "a*", "a+b", "a~",
		"\xff", "a\xff", "\xc3", "\xc3\xa4", "\u0161", "\u0141", "\u212a", "\u017f", "\ufffd", "a.\u0130", "a:\u0661", "\U00010061",
	} {
		wantHost(t, s, "", false)
	}
}

// P9.2: of one byte in a host, in a part's middle and in a port, all 256.
func TestHostBytes(t *testing.T) {
	const letters, digits = "ABCDEFGHIJKLMNOPQRSTUVWXYZabcdefghijklmnopqrstuvwxyz", "0123456789"
	for c := range 256 {
		b := string([]byte{byte(c)})
		if strings.Contains(letters+digits+"-", b) {
			wantHost(t, b, strings.ToLower(b), true)
			wantHost(t, "x"+b+"Y", "x"+strings.ToLower(b)+"y", true)
		} else if b == "." {
			wantHost(t, "x"+b+"Y", "x.y", true)
		} else if b != ":" {
			wantHost(t, b, "", false)
			wantHost(t, "x"+b+"Y", "", false)
		}
		if strings.Contains(digits, b) {
			wantHost(t, "x:"+b, "x", true)
			wantHost(t, "x:1"+b+"2", "x", true)
		} else {
			wantHost(t, "x:"+b, "", false)
			wantHost(t, "x:1"+b+"2", "", false)
		}
	}
}

// P9.2: MaxName counts the host alone.
func TestHostLength(t *testing.T) {
	most := strings.Repeat("B", api.MaxName)
	parts := strings.Repeat("b.", api.MaxName/2-1) + "bb"
	for _, port := range []string{"", ":", ":12345"} {
		wantHost(t, most+port, strings.ToLower(most), true)
		wantHost(t, parts+port, parts, true)
		wantHost(t, most+"b"+port, "", false)
		wantHost(t, parts+"b"+port, "", false)
		wantHost(t, most+".b"+port, "", false)
	}
	wantHost(t, strings.Repeat("b", 1<<20), "", false)
	wantHost(t, "b:"+strings.Repeat("1", 1<<20), "", false)
}

// P9.2: texts of all that may be near a host, beside an expression.
func TestHostScript(t *testing.T) {
	c := chance(7)
	right := 0
	for range 50000 {
		s := ""
		for range c.below(8) {
			s += c.of("a", "Z", "9", "-", ".", ".", ":", "1", "_", " ", "\xe4", "\u0161", "M")
		}
		if c.below(20) == 0 {
			s = strings.Repeat("b", 55+c.below(12)) + s
		}
		want, wantOk := modelHost(s)
		wantHost(t, s, want, wantOk)
		if wantOk {
			right++
		}
	}
	if right < 5000 || right > 45000 {
		t.Errorf("%d of the texts are right", right)
	}
}
