package tests

// textsNear returns all texts that become of a text by inserting, replacing or deleting one byte.
func textsNear(text string) []string {
	var list []string
	for i := 0; i <= len(text); i++ {
		before, after := text[:i], text[i:]
		for b := 0; b < 256; b++ {
			list = append(list, before+string([]byte{byte(b)})+after)
			if after != "" {
				list = append(list, before+string([]byte{byte(b)})+after[1:])
			}
		}
		if after != "" {
			list = append(list, before+after[1:])
		}
	}
	return list
}
