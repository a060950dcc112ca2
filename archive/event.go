package archive

import (
	"strings"

	"fedchat/api"
	"fedchat/num"
)

// field is a field of an event.
type field struct {
	name string
	// flag returns a field of the form bool; such a field has no value.
	flag func(e *api.Event) *bool
	// write returns the value of any other field, or the empty text if the field is zero; read sets it.
	write func(e *api.Event) string
	read  func(c *cursor, e *api.Event)
}

func number(name string, of func(e *api.Event) *int) field {
	return field{
		name: name,
		write: func(e *api.Event) string {
			if *of(e) == 0 {
				return ""
			}
			return num.Text(*of(e))
		},
		read: func(c *cursor, e *api.Event) { *of(e) = c.number() },
	}
}

func quoted(name string, of func(e *api.Event) *string) field {
	return field{
		name: name,
		write: func(e *api.Event) string {
			if *of(e) == "" {
				return ""
			}
			return Quote(*of(e))
		},
		read: func(c *cursor, e *api.Event) { *of(e) = c.text() },
	}
}

func numbers(name string, of func(e *api.Event) *[]int) field {
	return field{
		name:  name,
		write: func(e *api.Event) string { return joined(*of(e), num.Text) },
		read:  func(c *cursor, e *api.Event) { *of(e) = list(c, c.number) },
	}
}

func texts(name string, of func(e *api.Event) *[]string) field {
	return field{
		name:  name,
		write: func(e *api.Event) string { return joined(*of(e), Quote) },
		read:  func(c *cursor, e *api.Event) { *of(e) = list(c, c.text) },
	}
}

func flag(name string, of func(e *api.Event) *bool) field {
	return field{name: name, flag: of}
}

func kindField() field {
	return field{
		name: "kind",
		write: func(e *api.Event) string {
			if e.Kind == 0 {
				return ""
			}
			return num.Text(int(e.Kind))
		},
		read: func(c *cursor, e *api.Event) { e.Kind = api.Kind(c.number()) },
	}
}

func usersField() field {
	return field{
		name: "users",
		write: func(e *api.Event) string {
			return joined(e.Content.Levels.Users, func(l api.Level) string { return Quote(l.User) + ":" + num.Text(l.N) })
		},
		read: func(c *cursor, e *api.Event) {
			e.Content.Levels.Users = list(c, func() api.Level {
				user := c.text()
				c.expect(":")
				return api.Level{User: user, N: c.number()}
			})
		},
	}
}

func kindsField() field {
	return field{
		name: "kinds",
		write: func(e *api.Event) string {
			return joined(e.Content.Levels.Kinds, func(l api.KindLevel) string { return num.Text(int(l.Kind)) + ":" + num.Text(l.N) })
		},
		read: func(c *cursor, e *api.Event) {
			e.Content.Levels.Kinds = list(c, func() api.KindLevel {
				k := api.Kind(c.number())
				c.expect(":")
				return api.KindLevel{Kind: k, N: c.number()}
			})
		},
	}
}

// fields are those of an event, in the order in which they are written.
func fields() []field {
	return []field{
		number("id", func(e *api.Event) *int { return &e.Id }),
		quoted("room", func(e *api.Event) *string { return &e.Room }),
		quoted("sender", func(e *api.Event) *string { return &e.Sender }),
		kindField(),
		flag("state", func(e *api.Event) *bool { return &e.State }),
		quoted("key", func(e *api.Event) *string { return &e.Key }),
		number("time", func(e *api.Event) *int { return &e.Time }),
		number("depth", func(e *api.Event) *int { return &e.Depth }),
		numbers("prev", func(e *api.Event) *[]int { return &e.Prev }),
		numbers("auth", func(e *api.Event) *[]int { return &e.Auth }),
		quoted("text", func(e *api.Event) *string { return &e.Content.Text }),
		number("n", func(e *api.Event) *int { return &e.Content.N }),
		number("target", func(e *api.Event) *int { return &e.Content.Target }),
		flag("thread", func(e *api.Event) *bool { return &e.Content.Thread }),
		quoted("via", func(e *api.Event) *string { return &e.Content.Via }),
		texts("allow", func(e *api.Event) *[]string { return &e.Content.Allow }),
		texts("deny", func(e *api.Event) *[]string { return &e.Content.Deny }),
		usersField(),
		kindsField(),
		number("user", func(e *api.Event) *int { return &e.Content.Levels.User }),
		number("message", func(e *api.Event) *int { return &e.Content.Levels.Message }),
		number("states", func(e *api.Event) *int { return &e.Content.Levels.State }),
		number("invite", func(e *api.Event) *int { return &e.Content.Levels.Invite }),
		number("kick", func(e *api.Event) *int { return &e.Content.Levels.Kick }),
		number("ban", func(e *api.Event) *int { return &e.Content.Levels.Ban }),
		number("redact", func(e *api.Event) *int { return &e.Content.Levels.Redact }),
		number("hash", func(e *api.Event) *int { return &e.Hash }),
		quoted("server", func(e *api.Event) *string { return &e.Sig.Server }),
		number("sum", func(e *api.Event) *int { return &e.Sig.Sum }),
	}
}

// byName returns the fields of an event by their names.
func byName() map[string]field {
	named := map[string]field{}
	for _, f := range fields() {
		named[f.name] = f
	}
	return named
}

// Event returns the line of an event.
func Event(e api.Event) string {
	parts := []string{}
	for _, f := range fields() {
		if f.flag != nil {
			if *f.flag(&e) {
				parts = append(parts, f.name)
			}
			continue
		}
		if value := f.write(&e); value != "" {
			parts = append(parts, f.name+"="+value)
		}
	}
	return strings.Join(parts, " ")
}

// ReadEvent returns the event with the line s.
func ReadEvent(s string) (api.Event, api.Errno) {
	e := api.Event{}
	c := &cursor{rest: s}
	named := byName()
	for first := true; !c.failed && c.rest != ""; first = false {
		if !first {
			c.expect(" ")
		}
		c.field(named, &e)
	}
	// Fields in another order, twice, or with a value that is zero are written differently.
	if c.failed || Event(e) != s {
		return api.Event{}, api.ErrText
	}
	return e, api.OK
}

// field reads a field of an event.
func (c *cursor) field(named map[string]field, e *api.Event) {
	width := strings.IndexAny(c.rest+" ", "= ")
	f, known := named[c.rest[:width]]
	if c.failed || !known {
		c.failed = true
		return
	}
	c.rest = c.rest[width:]
	if f.flag != nil {
		*f.flag(e) = true
		return
	}
	c.expect("=")
	f.read(c, e)
}
