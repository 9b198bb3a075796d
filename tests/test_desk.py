"""Points 30 and 31, and of point 3 what can be asked at the desk."""

import itertools
import unittest

from arrowfind.desk import Desk
from arrowfind.errors import (
    Locked, NoArrow, NoLabel, NoName, NoRow, NoSuch, NoText, Ring, Twice, Unlike, WrongSize,
)
from tests.helper import (
    NAMES, Case, all_tied, by_numbers, by_turns, every_net, lists_of, nets_alike, others_of,
    shaped_net, shaped_nets, slow_corners, slow_nets_like, slow_partings, slow_picture,
    slow_turnable, slow_turned, steps_of, thrown_nets,
)


def written(net):
    return " ".join([*net[0], ":", *[tail + ">" + head for tail, head in net[1]]])


def told(*rows):
    desk = Desk()
    for row in rows:
        desk.say(row)
    return desk


class DeskCase(Case):
    def setUp(self):
        self.nets = {
            "wet": "rain sun wet : rain>wet sun>wet",
            "row": "a b c : b>a b>c",
            "back": "a b c : a>b b>c",
            "corner": "a b c : a>b c>b",
        }
        self.desk = told(*[f"net {label} {net}" for label, net in self.nets.items()])

    def is_as_before(self):
        for label, net in self.nets.items():
            self.assertEqual(self.desk.say(f"show {label}"), net)
        for label in ("x", "a", "other"):
            self.refused(NoLabel, self.desk.say, f"show {label}")

    def refuses(self, error, *rows):
        for row in rows:
            self.refused(error, self.desk.say, row)
            self.is_as_before()


class RowsTest(DeskCase):
    def test_net_and_show(self):
        for net in itertools.chain(every_net(3), thrown_nets(), shaped_nets()):
            self.assertEqual(self.desk.say("net x " + written(net)), "ok")
            self.assertEqual(self.desk.say("show x"), written(net))

    def test_a_net_in_the_place_of_another(self):
        self.assertEqual(self.desk.say("net row b a : a>b"), "ok")
        self.assertEqual(self.desk.say("show row"), "b a : a>b")
        self.assertEqual(self.desk.say("show back"), self.nets["back"])

    def test_arrows_in_any_order(self):
        self.assertEqual(self.desk.say("net abcdefgh c b a : b>a a>c"), "ok")
        self.assertEqual(self.desk.say("show abcdefgh"), "c b a : b>a a>c")
        self.assertEqual(self.desk.say("net abcdefgh c b a : a>c b>a"), "ok")
        self.assertEqual(self.desk.say("show abcdefgh"), "c b a : b>a a>c")

    def test_drop_and_tell_anew(self):
        self.assertEqual(self.desk.say("drop row"), "ok")
        self.refused(NoLabel, self.desk.say, "show row")
        self.refused(NoLabel, self.desk.say, "drop row")
        self.assertEqual(self.desk.say("show back"), self.nets["back"])
        self.assertEqual(self.desk.say("net row a :"), "ok")
        self.assertEqual(self.desk.say("show row"), "a :")

    def test_labels_may_be_words_of_rows_and_names(self):
        for label in ("net", "show", "a", "drop", "rain"):
            self.desk.say(f"net {label} a :")
            self.assertEqual(self.desk.say(f"show {label}"), "a :")
            self.desk.say(f"drop {label}")
        self.is_as_before()

    def test_turn(self):
        self.assertEqual(self.desk.say("turn row b c"), "ok")
        self.assertEqual(self.desk.say("show row"), "a b c : b>a c>b")
        self.assertEqual(self.desk.say("turn row c b"), "ok")
        self.is_as_before()

    def test_turn_each_arrow_that_can_be(self):
        for net in itertools.chain(every_net(3), thrown_nets(sizes=(5,), each=6)):
            for arrow in net[1]:
                self.desk.say("net x " + written(net))
                if arrow in slow_turnable(net):
                    self.assertEqual(self.desk.say("turn x " + " ".join(arrow)), "ok")
                    self.assertEqual(self.desk.say("show x"), written(slow_turned(net, arrow)))
                else:
                    self.refused(Locked, self.desk.say, "turn x " + " ".join(arrow))
                    self.assertEqual(self.desk.say("show x"), written(net))

    def test_pick_changes_the_net_by_that_label_alone(self):
        self.desk.say("net x " + self.nets["row"])
        self.assertEqual(self.desk.say("pick x 0"), "ok")
        self.assertEqual(self.desk.say("show x"), "a b c : a>b b>c")
        self.assertEqual(self.desk.say("show row"), self.nets["row"])

    def test_pictures(self):
        self.assertEqual(self.desk.say("picture wet"), "rain sun wet : rain>wet sun>wet")
        self.assertEqual(self.desk.say("picture row"), "a b c : a-b b-c")
        self.desk.say("net x a :")
        self.assertEqual(self.desk.say("picture x"), "a :")

    def test_counts_and_numbers(self):
        self.assertEqual([self.desk.say("count " + label) for label in self.nets], ["1", "3", "3", "1"])
        self.assertEqual([self.desk.say("number " + label) for label in self.nets], ["0", "1", "0", "0"])

    def test_parted(self):
        for row, answer in {
            "wet rain sun": "yes", "wet sun rain": "yes", "wet rain sun wet": "no", "row a c": "no",
            "row a c b": "yes", "row a b": "no", "row a b c": "no", "corner c a": "yes", "corner c a b": "no",
        }.items():
            self.assertEqual(self.desk.say("parted " + row), answer)

    def test_same(self):
        for row, answer in {
            "row back": "yes", "back row": "yes", "row row": "yes", "row corner": "no", "corner corner": "yes",
        }.items():
            self.assertEqual(self.desk.say("same " + row), answer)

    def test_chain(self):
        for row, answer in {
            "row back": "b>a", "back row": "a>b", "row row": "", "row corner": "-", "corner back": "-",
        }.items():
            self.assertEqual(self.desk.say("chain " + row), answer)

    def test_two_desks_beside_one_another(self):
        other = Desk()
        self.refused(NoLabel, other.say, "show row")
        other.say("net row a :")
        other.say("net x b :")
        self.is_as_before()
        self.desk.say("drop row")
        self.assertEqual(other.say("show row"), "a :")

    def test_asking_changes_nothing(self):
        for row in (
            "show row", "picture row", "count row", "number row", "parted row a c b", "same row back",
            "same row corner", "chain row back", "chain row corner",
        ):
            first = self.desk.say(row)
            self.is_as_before()
            self.assertEqual(self.desk.say(row), first)

    def test_texts_are_told(self):
        for row in ("net x a :", "show row", "count row", "number row", "same row row", "chain row row", "drop x"):
            self.assertIs(type(self.desk.say(row)), str)


class NoRowTest(DeskCase):
    def test_first_words(self):
        self.refuses(NoRow, "", " ", "x", "x row", "Show row", "shows row", "sho row", "nets x a :", ": row", "a :")

    def test_blanks_ahead(self):
        self.refuses(NoRow, " show row", "  show row", " net x a :", "  ")

    def test_tabs_and_line_ends_cut_nothing(self):
        self.refuses(NoRow, "show\trow", "show\nrow", "\tshow row", "\nshow row", "net\tx a :", "drop\trow")

    def test_fewer_words(self):
        self.refuses(NoRow, "net", "net x", "net row", "drop", "turn", "turn row", "turn row b", "pick", "pick row")
        self.refuses(NoRow, "show", "picture", "count", "number", "parted", "parted row", "parted row a")
        self.refuses(NoRow, "same", "same row", "chain", "chain row")

    def test_more_words(self):
        self.refuses(NoRow, "drop row x", "turn row b c a", "pick row 0 1", "show row row", "picture row a")
        self.refuses(NoRow, "count row 1", "number row 1", "same row back corner", "chain row back corner")

    def test_empty_words_are_counted(self):
        self.refuses(NoRow, "drop row ", "drop  row", "turn row b c ", "turn row  b c", "pick row 0 ", "pick  row 0")
        self.refuses(NoRow, "show row ", "show  row", "picture row ", "count row ", "number row ", "same row back ")
        self.refuses(NoRow, "same  row back", "chain row back ", "chain row  back", "show row  ")

    def test_ahead_of_the_label(self):
        self.refuses(NoRow, "show X x", "drop x x", "turn x b", "pick x", "parted x a", "same x", "chain X", "net X")


class NoLabelTest(DeskCase):
    def test_labels_that_are_no_words(self):
        for label in ("", "X", "a1", "abcdefghi", "row\n", "row\t", "\trow", "-", ":", "a>b", "ro\nw"):
            self.refuses(NoLabel, f"net {label} a :", f"drop {label}", f"turn {label} b c", f"pick {label} 0")
            self.refuses(NoLabel, f"show {label}", f"picture {label}", f"count {label}", f"number {label}")
            self.refuses(NoLabel, f"parted {label} a c", f"parted {label} a c b", f"same {label} row")
            self.refuses(NoLabel, f"same row {label}", f"chain {label} row", f"chain row {label}")

    def test_labels_by_which_no_net_stands(self):
        self.refuses(NoLabel, "drop x", "turn x b c", "pick x 0", "show x", "picture x", "count x", "number x")
        self.refuses(NoLabel, "parted x a c b", "same x row", "same row x", "same x x", "chain x row", "chain row x")

    def test_empty_labels(self):
        self.refuses(NoLabel, "show ", "drop ", "net  a :", "turn  b c", "pick  0", "parted  a c")
        self.refuses(NoLabel, "same  row", "same row ", "chain  row", "chain row ")

    def test_ahead_of_what_follows(self):
        self.refuses(NoLabel, "net X a", "net  ", "turn x q q", "pick x 01", "pick x y", "parted x q q", "parted x a a")
        self.refuses(NoLabel, "same wet x", "same x wet", "chain wet x", "chain X row")

    def test_on_an_empty_desk(self):
        for row in ("show a", "drop a", "turn a b c", "pick a 0", "parted a b c", "same a a", "chain a b"):
            self.refused(NoLabel, Desk().say, row)


class NetRefusedTest(DeskCase):
    def test_no_text(self):
        for text in (
            "", " ", " a :", "a : ", "a", ":", "a b : a", "a  b :", "a b : a>b\n", "a\t:", "abcdefghi :", "a : :",
        ):
            self.refuses(NoText, "net x " + text, "net row " + text)

    def test_what_the_net_is_refused_for(self):
        self.refuses(WrongSize, "net x a b c d e f g h i :", "net row a b c d e f g h i : x>y")
        self.refuses(Twice, "net x a a :", "net row a b : a>a", "net row a b : a>b b>a")
        self.refuses(NoName, "net x a : a>b", "net row a b : c>a")
        self.refuses(Ring, "net x a b c : a>b b>c c>a", "net row a b c d : b>c c>d d>b")


class TurnRefusedTest(DeskCase):
    def test_strange_names(self):
        self.refuses(NoName, "turn row x a", "turn row a x", "turn row x x", "turn row B a")
        self.refuses(NoName, "turn row  a", "turn row a ", "turn row  ")

    def test_no_arrow(self):
        self.refuses(NoArrow, "turn row a b", "turn row a c", "turn row a a", "turn corner b a")

    def test_locked(self):
        self.refuses(Locked, "turn corner a b", "turn wet sun wet", "turn back b c")


class PickRefusedTest(DeskCase):
    def test_numbers_that_no_net_has(self):
        self.refuses(NoSuch, "pick row 3", "pick wet 1", "pick row 999999999", "pick back 10")

    def test_numbers_that_are_no_figures(self):
        for text in (
            "", "-1", "+1", "-0", "+0", "a", "1a", "1.0", "1_0", "0x1", "\t1", "1\n", "1\t", "\n", "one", ":",
        ):
            self.refuses(NoSuch, "pick row " + text)

    def test_leading_0(self):
        self.refuses(NoSuch, "pick row 00", "pick row 01", "pick row 000000002", "pick row 02")

    def test_ten_figures(self):
        self.refuses(NoSuch, "pick row 1000000000", "pick row 0000000001", "pick row " + "1" * 300)
        self.refuses(NoSuch, "pick row " + "0" * 9000, "pick row " + "9" * 9000)

    def test_a_blank_within_is_a_word_more(self):
        self.refuses(NoRow, "pick row 1 0", "pick row  1", "pick row 1 ")


class PartedRefusedTest(DeskCase):
    def test_strange_names(self):
        self.refuses(NoName, "parted row x a", "parted row a x", "parted row a c x", "parted row a c b x")
        self.refuses(NoName, "parted row A c", "parted row a c\n", "parted row a c b\t")

    def test_empty_words_are_strange_names(self):
        self.refuses(NoName, "parted row a c ", "parted row a  c", "parted row  a c", "parted row a c  b")

    def test_names_twice(self):
        self.refuses(Twice, "parted row a a", "parted row a c a", "parted row a c c", "parted row a c b b")

    def test_strange_names_go_ahead(self):
        self.refuses(NoName, "parted row a a x", "parted row x x", "parted row a c b b ", "parted row a a ")


class UnlikeTest(DeskCase):
    def setUp(self):
        DeskCase.setUp(self)
        self.nets.update({"turned": "c b a : b>a", "fewer": "a b : a>b"})
        for label in ("turned", "fewer"):
            self.desk.say(f"net {label} {self.nets[label]}")

    def test_nets_that_have_not_the_same_names(self):
        for pair in itertools.permutations(("wet", "row", "turned", "fewer"), 2):
            self.refuses(Unlike, "same " + " ".join(pair), "chain " + " ".join(pair))


class WholeTest(Case):
    def test_parted_as_the_nets_say(self):
        for net in itertools.chain(every_net(3), list(every_net(4))[::9], thrown_nets(sizes=(5,), each=4)):
            desk = told("net x " + written(net))
            said = slow_partings(net)
            for one, other in itertools.combinations(net[0], 2):
                for held in lists_of(others_of(net, one, other)):
                    answer = "yes" if (one, other, tuple(held)) in said else "no"
                    self.assertEqual(desk.say(" ".join(["parted x", one, other, *held])), answer)
                    self.assertEqual(desk.say(" ".join(["parted x", other, one, *held[::-1]])), answer)

    def test_same_and_chains_of_small_nets(self):
        groups = nets_alike(3)
        for first, second in itertools.product(range(len(groups)), repeat=2):
            for one, other in itertools.product(groups[first], groups[second]):
                self.lead_from_net_to_net(one, other, first == second)

    def test_same_and_chains_of_larger_nets(self):
        for net in [*thrown_nets(sizes=(5, 6), each=3), shaped_net("a star"), shaped_net("a fan")]:
            nets = slow_nets_like(net)
            for other in nets[::1 + len(nets) // 8]:
                self.lead_from_net_to_net(net, other, True)
            for turns in itertools.islice(itertools.permutations(net[0]), 0, None, 37):
                other = by_turns(net, turns)
                self.lead_from_net_to_net(net, other, slow_corners(other) == slow_corners(net))

    def lead_from_net_to_net(self, one, other, same):
        desk = told("net one " + written(one), "net other " + written(other))
        self.assertEqual(desk.say("same one other"), "yes" if same else "no")
        chain = desk.say("chain one other")
        if not same:
            self.assertEqual(chain, "-")
            return
        arrows = chain.split(" ") if chain else []
        self.assertEqual(len(arrows), len(set(one[1]) - set(other[1])))
        for arrow in arrows:
            self.assertEqual(desk.say("turn one " + arrow.replace(">", " ")), "ok")
        self.assertEqual(desk.say("show one"), desk.say("show other"))

    def test_pictures_counts_and_numbers_there_and_back(self):
        shaped = [slow_nets_like(net) for net in shaped_nets()]
        for nets in nets_alike(3) + nets_alike(4)[::3] + [nets for nets in shaped if len(nets) < 30]:
            desk = told("net x " + written(nets[-1]))
            names, arrows, ties = slow_picture(nets)
            pieces = [tail + ">" + head for tail, head in arrows] + [one + "-" + other for one, other in ties]
            self.assertEqual(desk.say("picture x"), " ".join([*names, ":", *pieces]))
            self.assertEqual(desk.say("count x"), str(len(nets)))
            for number, net in enumerate(by_numbers(nets)):
                self.assertEqual(desk.say(f"pick x {number}"), "ok")
                self.assertEqual(desk.say("show x"), written(net))
                self.assertEqual(desk.say("number x"), str(number))
            self.refused(NoSuch, desk.say, f"pick x {len(nets)}")
            self.assertEqual(desk.say("number x"), str(len(nets) - 1))

    def test_seven_names_all_tied(self):
        desk = told("net x " + written(all_tied(NAMES[:7])))
        self.assertEqual(desk.say("count x"), "5040")
        self.assertEqual(desk.say("number x"), "0")
        shown = {desk.say("show x")}
        for number in (1, 2, 719, 720, 721, 2519, 4000, 5038, 5039):
            self.assertEqual(desk.say(f"pick x {number}"), "ok")
            self.assertEqual(desk.say("number x"), str(number))
            shown.add(desk.say("show x"))
        self.assertEqual(len(shown), 10)
        self.assertEqual(desk.say("show x"), written(backwards(NAMES[:7])))
        self.refused(NoSuch, desk.say, "pick x 5040")

    def test_in_a_moment(self):
        for size in (7, 8):
            desk = told("net x " + written(all_tied(NAMES[:size])), "net y " + written(backwards(NAMES[:size])))
            for row in ("count x", "pick x 5039", "number x", "picture x", "same x y", "chain x y", "show x"):
                self.assertLess(steps_of(desk.say, row), 300000, row)


def backwards(names):
    """The net with every tie, each arrow from a later name to an earlier."""
    return by_turns(all_tied(names), names[::-1])


if __name__ == "__main__":
    unittest.main()
