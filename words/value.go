package words

import (
	"strings"

	"culvert/api"
)

const (
	maxDigits = 10
	hexDigits = "0123456789abcdef"
)

// Number answers the number that s is, if it is not above most (P8.4).
func Number(s string, most int) (int, bool) {
	if s == "" || len(s) > maxDigits || s[0] == '0' && s != "0" {
		return 0, false
	}
	var n int64 // ten digits are more than an int of 32 bits holds
	for i := range len(s) {
		if s[i] < '0' || s[i] > '9' {
			return 0, false
		}
		n = n*10 + int64(s[i]-'0')
	}
	if n > int64(most) {
		return 0, false
	}
	return int(n), true
}

// PrintId writes an id as pairs of digits with : between (P8.5).
func PrintId(id api.RouterId) string {
	var b []byte
	for i, v := range id {
		if i > 0 {
			b = append(b, ':')
		}
		b = append(b, hexDigits[v>>4], hexDigits[v&15])
	}
	return string(b)
}

// ParseId reads an id that is written as PrintId writes it (P8.5).
func ParseId(s string) (api.RouterId, bool) {
	var id api.RouterId
	if len(s) != 3*len(id)-1 {
		return api.RouterId{}, false
	}
	for i := range id {
		high := strings.IndexByte(hexDigits, s[3*i])
		low := strings.IndexByte(hexDigits, s[3*i+1])
		if high < 0 || low < 0 || i > 0 && s[3*i-1] != ':' {
			return api.RouterId{}, false
		}
		id[i] = byte(high<<4 | low)
	}
	return id, true
}
