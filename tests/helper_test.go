package tests

import "fmt"

// shown keeps reports short for strings near the size limits.
func shown(text string) string {
	if len(text) <= 40 {
		return fmt.Sprintf("%q", text)
	}
	return fmt.Sprintf("%q.. (%d bytes)", text[:20], len(text))
}
